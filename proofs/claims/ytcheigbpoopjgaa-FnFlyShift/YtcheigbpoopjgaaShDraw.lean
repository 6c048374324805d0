/- A path and a number of ticks that are drawn, by the contract of DrawFlyShift. -/
import Derived.Deep.RegionWith
import Derived.Test.YtcheigbpoopjgaaJ07
namespace Go.Proofs.Ytcheigbpoopjgaa
open Go.RowKit

/-- The numbers that are picked from. -/
theorem five_at (P1 P2 : Int) (h1 : 0 ≤ P1 ∧ P1 < 50) (h2 : 0 ≤ P2 ∧ P2 < 20) (m : Nat) (hm : m < 5) : ∃ d : Int, (#[.int .i64 P1, .int .i64 (-P2), .int .i64 0, .int .i64 10000, .int .i64 (-10001)] : Array Value)[m]? = some (.int .i64 d) ∧ -10001 ≤ d ∧ d ≤ 10000 := by
  rcases (show m = 0 ∨ m = 1 ∨ m = 2 ∨ m = 3 ∨ m = 4 by omega) with rfl | rfl | rfl | rfl | rfl
  · exact ⟨P1, rfl, by omega, by omega⟩
  · exact ⟨-P2, rfl, by omega, by omega⟩
  · exact ⟨0, rfl, by omega, by omega⟩
  · exact ⟨10000, rfl, by omega, by omega⟩
  · exact ⟨-10001, rfl, by omega, by omega⟩

set_option maxRecDepth 20000 in
set_option maxHeartbeats 16000000 in
theorem shift_draw (a0 : Option Addr) (cb co ccap : Nat) (zs0 : List Int) (w : World) (hz : BytesAt w a0 cb co zs0) (hl : zs0.length ≤ 1048576) (hc : zs0.length ≤ ccap) :
    Calls Try.prog 19 #[.slice a0 zs0.length ccap] w fun e w' => ∃ q s fr b a b0 o cap l d, e = .returned (.tuple #[.agg #[.int .i64 q, .int .i64 s, .slice a l.length cap, .int .i64 fr, .int .i64 b], .int .i64 d]) ∧
      l.length ≤ 41 ∧ StepsAt w' a b0 o l ∧ (-10001 ≤ d ∧ d ≤ 10000) ∧ Below w.heap.size w w' := by
  have P0 := PathAt.new w 0 0 0 0 (.slice none 0 0)
  have hz' : BytesAt (w.alloc (.cells #[.int .i64 0, .int .i64 0, .slice none 0 0, .int .i64 0, .int .i64 0] 27)) a0 cb co zs0 := ⟨hz.here, fun h => by have := hz.lt h; simp; omega, fun i z hi => by
    have hne : zs0 ≠ [] := by intro e; rw [e] at hi; simp at hi
    rw [World.cell?_of_block (w := w) (a := ⟨cb, co + i, none⟩) (Below.heap_alloc w _ cb (hz.lt hne))]
    exact hz.cell i z hi, hz.rng⟩
  go_enter Try.func19, Try.ntmps19
  go_wp2_with fail
  refine (open_any a0 cb co ccap zs0 _ hz' hl hc).mono ?_
  rintro e w1 ⟨R, rfl, r1, hb1, s1⟩
  rw [World.size_alloc] at r1 s1
  have P1 := P0.keep hb1 P0.lt
  have B1 : Below w.heap.size w w1 := ((Below.refl _ _).alloc (Nat.le_refl _) _).trans (hb1.mono (by simp))
  clear hb1 P0 hz'
  go_wp2_with fail
  refine (any_draw (w.heap.size + 1) R 0 _ r1 (by omega)).mono ?_
  rintro e w2 ⟨q, s, fr, b, a, b0, o, cap, l, p2, rfl, hl2, hs2, hb0, hp2, R2⟩
  have P2 := P1.grown R2.gr (by simp)
  have D3 : DrD w w1 (w2.alloc (.cells #[.int .i64 q, .int .i64 s, .slice a l.length cap, .int .i64 fr, .int .i64 b] 27)) (w.heap.size + 1) R p2 w2.heap.size q s fr b a b0 o cap l :=
    ⟨R2.alloc _, s1, rfl, B1, R2.size, P2.keep ((Below.refl _ _).alloc (Nat.le_refl _) _) P2.lt, PathAt.new w2 q s fr b _, hl2, hs2.alloc _, fun h => by have := hb0 h; omega⟩
  clear P1 B1 r1 R2 P2 hs2 hb0 hl2
  go_wp2
  generalize (w2.alloc (.cells #[.int .i64 q, .int .i64 s, .slice a l.length cap, .int .i64 fr, .int .i64 b] 27)) = w3 at *
  generalize w2.heap.size = X at *
  have hp2' : p2 ≤ 5300 := by omega
  obtain ⟨P1, hP1⟩ : ∃ P1, pickV R p2 50 = P1 := ⟨_, rfl⟩
  obtain ⟨P2, hP2⟩ : ∃ P2, pickV R (p2 + 1) 20 = P2 := ⟨_, rfl⟩
  have hr1 : 0 ≤ P1 ∧ P1 < 50 := by rw [← hP1]; exact pickV_range D3.rd.rd.rng (by omega) (by omega)
  have hr2 : 0 ≤ P2 ∧ P2 < 20 := by rw [← hP2]; exact pickV_range D3.rd.rd.rng (by omega) (by omega)
  have hr3 : 0 ≤ pickV R (p2 + 1 + 1) 5 ∧ pickV R (p2 + 1 + 1) 5 < 5 := pickV_range D3.rd.rd.rng (by omega) (by omega)
  have K1 : ∀ W : World, RdAt W (w.heap.size + 1) R p2 → Calls Try.prog 27 #[.pointer (some ⟨w.heap.size + 1, 0, none⟩), .int .i64 50] W fun e w' => e = .returned (.int .i64 P1) ∧ RdAt w' (w.heap.size + 1) R (p2 + 1) ∧ W.grownBy w' (some (w.heap.size + 1)) ∧ w'.heap.size = W.heap.size := fun W h => by rw [← hP1]; exact pick_any _ R p2 50 W h (by omega)
  have K2 : ∀ W : World, RdAt W (w.heap.size + 1) R (p2 + 1) → Calls Try.prog 27 #[.pointer (some ⟨w.heap.size + 1, 0, none⟩), .int .i64 20] W fun e w' => e = .returned (.int .i64 P2) ∧ RdAt w' (w.heap.size + 1) R (p2 + 1 + 1) ∧ W.grownBy w' (some (w.heap.size + 1)) ∧ w'.heap.size = W.heap.size := fun W h => by rw [← hP2]; exact pick_any _ R (p2 + 1) 20 W h (by omega)
  have K3 : ∀ W : World, RdAt W (w.heap.size + 1) R (p2 + 1 + 1) → Calls Try.prog 27 #[.pointer (some ⟨w.heap.size + 1, 0, none⟩), .int .i64 5] W fun e w' => e = .returned (.int .i64 (pickV R (p2 + 1 + 1) 5)) ∧ RdAt w' (w.heap.size + 1) R (p2 + 1 + 1 + 1) ∧ W.grownBy w' (some (w.heap.size + 1)) ∧ w'.heap.size = W.heap.size := fun W h => pick_any _ R (p2 + 1 + 1) 5 W h (by omega)
  obtain ⟨hr2a, hr2b⟩ := hr2
  have hwP : IntKind.i64.wrap (-P2) = -P2 := by rw [IntKind.wrap_i64]; omega
  clear hP1 hP2
  have D4 := D3.drew
  have L3 : w.heap.size + 1 < w3.heap.size := by have := D3.pa.lt; have := D3.ge; have := D3.base; omega
  obtain ⟨⟨e0, e1, e2, e3, e4⟩, ef⟩ := D3.pa.cells
  have hne : l ≠ [] → w.heap.size ≠ b0 := fun hl e => by
    obtain ⟨cur, hc⟩ := D3.st.ty hl
    rw [← e, D3.res.it] at hc
    have := congrArg (fun o => match o with | some (Obj.cells _ t _) => t | _ => 0) hc
    simp at this
  have CS : ∀ {wr : World} {p : Nat}, DrD w w1 wr (w.heap.size + 1) R p X q s fr b a b0 o cap l → (∀ j, wr.cell? ⟨X, j, none⟩ = w3.cell? ⟨X, j, none⟩) := fun h j => by
    have h1 := h.pa.it
    have h2 := D3.pa.it
    simp only [World.cell?, h1, h2]
  obtain ⟨m, h5⟩ : ∃ m : Nat, pickV R (p2 + 1 + 1) 5 = (m : Int) := ⟨(pickV R (p2 + 1 + 1) 5).toNat, by omega⟩
  rw [h5] at K3 hr3
  clear h5
  obtain ⟨d, hd, hd1, hd2⟩ := five_at P1 P2 hr1 ⟨hr2a, hr2b⟩ m (by omega)
  have m0 : (0 : Int) ≤ (m : Int) := by omega
  have m1 : (m : Int) < 5 := by omega
  have HA : ∀ (wb wc : World), wb.heap.size = w3.heap.size → (wb.alloc (.cells #[.int .i64 P1, .int .i64 (-P2), .int .i64 0, .int .i64 10000, .int .i64 (-10001)] 3)).grownBy wc (some (w.heap.size + 1)) → wc.cell? ⟨w3.heap.size, m, none⟩ = some (.int .i64 d) := fun wb wc hsz gc =>
    (World.cell?_of_block (a := ⟨w3.heap.size, m, none⟩) (gc.block w3.heap.size (by rw [World.size_alloc, hsz]; omega) (fun e => by have := Option.some.inj e; omega))).trans ((World.cell?_alloc_at _ _ _ _ hsz.symm).trans hd)
  have HB : ∀ wc : World, wc.heap.size = w3.heap.size → (wc.alloc (.cells #[.int .i64 P1, .int .i64 (-P2), .int .i64 0, .int .i64 10000, .int .i64 (-10001)] 3)).cell? ⟨w3.heap.size, m, none⟩ = some (.int .i64 d) := fun wc hsz => (World.cell?_alloc_at _ _ _ _ hsz.symm).trans hd
  rename_i K hK
  have FIN : ∀ (W : World) (A : Act), PathAt W w.heap.size q s fr b (.slice a l.length cap) → StepsAt W a b0 o l → Below w.heap.size w W → A.tmps[2]? = some (.pointer (some ⟨w.heap.size, 0, none⟩)) → A.tmps[3]? = some (.int .i64 d) → A.defers = [] → K A W :=
    fun W A hp hst hbl h2 h3 hdf => hK _ _ (wp_ret (bodyPost_ret (ret_shift hp A.tmps h2 h3) hdf ⟨q, s, fr, b, a, b0, o, cap, l, d, rfl, D3.len, hst, ⟨hd1, hd2⟩, hbl⟩))
  have S5 : ∀ Wb : World, StepsAt Wb a b0 o l → StepsAt (((((Wb.setCell ⟨w.heap.size, 0, none⟩ (.int .i64 q)).setCell ⟨w.heap.size, 1, none⟩ (.int .i64 s)).setCell ⟨w.heap.size, 2, none⟩ (.slice a l.length cap)).setCell ⟨w.heap.size, 3, none⟩ (.int .i64 fr)).setCell ⟨w.heap.size, 4, none⟩ (.int .i64 b)) a b0 o l := fun Wb hst => by
    iterate 5 (refine StepsAt.grown ?_ (grown_set _ _ _) (fun hl e => hne hl (by cases e; rfl)))
    exact hst
  have B5 : ∀ Wb : World, Below w.heap.size w Wb → Below w.heap.size w (((((Wb.setCell ⟨w.heap.size, 0, none⟩ (.int .i64 q)).setCell ⟨w.heap.size, 1, none⟩ (.int .i64 s)).setCell ⟨w.heap.size, 2, none⟩ (.slice a l.length cap)).setCell ⟨w.heap.size, 3, none⟩ (.int .i64 fr)).setCell ⟨w.heap.size, 4, none⟩ (.int .i64 b)) := fun Wb hbl => by
    iterate 5 (refine Below.setCell ?_ (show w.heap.size ≤ w.heap.size from Nat.le_refl _) _)
    exact hbl
  clear hr1 hr3
  go_region_with (first
    | (go_at_call_of 27 (Value.int IntKind.i64 50); refine (K1 _ D4.rd.rd).mono ?_; rintro e wa ⟨rfl, ra, ga, sa⟩; have Da := D4.more ra ga; have ca := CS Da)
    | (go_at_call_of 27 (Value.int IntKind.i64 20); refine (K2 _ Da.rd.rd).mono ?_; rintro e wb ⟨rfl, rb, gb, sb⟩; have Db := Da.more rb gb; have cb' := CS Db; have lX := Db.pa.lt; have lZ := Db.res.lt; have zb := Db.res.cells; have y0 := zb.1.1; have y1 := zb.1.2.1; have y2 := zb.1.2.2.1; have y3 := zb.1.2.2.2.1; have y4 := zb.1.2.2.2.2; have yf := zb.2; have cb2 := CS (Db.alloc (.cells #[.int .i64 P1, .int .i64 (-P2), .int .i64 0, .int .i64 10000, .int .i64 (-10001)] 3)))
    | (go_at_call_of 27 (Value.int IntKind.i64 5); first
        | (refine (K3 wb Db.rd.rd).mono ?_; rintro e wc ⟨rfl, rc, gc, sc⟩; have Dc := Db.more rc gc; have cc := CS Dc; have lXc := Dc.pa.lt; have lZc := Dc.res.lt; have zc := Dc.res.cells; have u0 := zc.1.1; have u1 := zc.1.2.1; have u2 := zc.1.2.2.1; have u3 := zc.1.2.2.2.1; have u4 := zc.1.2.2.2.2; have uf := zc.2; have cd := CS (Dc.alloc (.cells #[.int .i64 P1, .int .i64 (-P2), .int .i64 0, .int .i64 10000, .int .i64 (-10001)] 3)); have zd := (Dc.alloc (.cells #[.int .i64 P1, .int .i64 (-P2), .int .i64 0, .int .i64 10000, .int .i64 (-10001)] 3)).res.cells; have t0 := zd.1.1; have t1 := zd.1.2.1; have t2 := zd.1.2.2.1; have t3 := zd.1.2.2.2.1; have t4 := zd.1.2.2.2.2; have tf := zd.2; have hcB := HB wc (sc.trans (sb.trans sa)))
        | (refine (K3 (wb.alloc (.cells #[.int .i64 P1, .int .i64 (-P2), .int .i64 0, .int .i64 10000, .int .i64 (-10001)] 3)) (Db.alloc _).rd.rd).mono ?_; rintro e wc ⟨rfl, rc, gc, sc⟩; have Dc := (Db.alloc _).more rc gc; have cc := CS Dc; have zc := Dc.res.cells; have u0 := zc.1.1; have u1 := zc.1.2.1; have u2 := zc.1.2.2.1; have u3 := zc.1.2.2.2.1; have u4 := zc.1.2.2.2.2; have uf := zc.2; have hcA := HA wb wc (sb.trans sa) gc)))
  all_goals (
    refine (show K _ _ from FIN _ _ ?_ ?_ ?_ ?_ ?_ ?_)
    · first
      | with_reducible exact Dc.res.set5 _ _ _ _ _
      | with_reducible exact (Dc.alloc _).res.set5 _ _ _ _ _
      | with_reducible exact (Dc.res.set5 _ _ _ _ _).alloc _
    · first
      | with_reducible exact S5 _ Dc.st.st
      | with_reducible exact S5 _ (Dc.alloc _).st.st
      | with_reducible exact (S5 _ Dc.st.st).alloc _
    · first
      | with_reducible exact B5 _ Dc.was
      | with_reducible exact B5 _ (Dc.alloc _).was
      | with_reducible exact (B5 _ Dc.was).alloc (B5 _ Dc.was).size _
    · rfl
    · rfl
    · rfl)
end Go.Proofs.Ytcheigbpoopjgaa
