/- A path and the beginning of a flight, drawn. -/
import Derived.Test.YtndfacmfjilbkaaJ07
import Derived.Deep.RegionHeld3
namespace Go.Proofs.Ytndfacmfjilbkaa
open Go.RowKit

section
variable {w w1 wr : World} {B : Nat} {R : Rdr} {p X : Nat} {q s fr b : Int} {a : Option Addr} {b0 o cap : Nat} {l : List Stp}
theorem DrD.post2 (h : DrD w w1 wr B R p X q s fr b a b0 o cap l) {g dcap : Nat} {zs : List Int} (hl : zs.length ≤ 43) (ho : wr.ownsRow w1.heap.size 3 1 (.slice (some ⟨g, 0, none⟩) zs.length dcap) zs.length (intCells zs)) :
    ∃ q' s' fr' b' a' b0' o' cap' l' g' dc zs', Ending.returned (.tuple #[.agg #[.int .i64 q, .int .i64 s, .slice a l.length cap, .int .i64 fr, .int .i64 b], .slice (some ⟨g, 0, none⟩) zs.length dcap]) = .returned (.tuple #[.agg #[.int .i64 q', .int .i64 s', .slice a' l'.length cap', .int .i64 fr', .int .i64 b'], .slice (some ⟨g', 0, none⟩) zs'.length dc]) ∧
      l'.length ≤ 41 ∧ zs'.length ≤ 43 ∧ StepsAt (((((wr.setCell ⟨w.heap.size, 0, none⟩ (.int .i64 q)).setCell ⟨w.heap.size, 1, none⟩ (.int .i64 s)).setCell ⟨w.heap.size, 2, none⟩ (.slice a l.length cap)).setCell ⟨w.heap.size, 3, none⟩ (.int .i64 fr)).setCell ⟨w.heap.size, 4, none⟩ (.int .i64 b)) a' b0' o' l' ∧
      IntsAt (((((wr.setCell ⟨w.heap.size, 0, none⟩ (.int .i64 q)).setCell ⟨w.heap.size, 1, none⟩ (.int .i64 s)).setCell ⟨w.heap.size, 2, none⟩ (.slice a l.length cap)).setCell ⟨w.heap.size, 3, none⟩ (.int .i64 fr)).setCell ⟨w.heap.size, 4, none⟩ (.int .i64 b)) (some ⟨g', 0, none⟩) g' 0 zs' ∧
      Below w.heap.size w (((((wr.setCell ⟨w.heap.size, 0, none⟩ (.int .i64 q)).setCell ⟨w.heap.size, 1, none⟩ (.int .i64 s)).setCell ⟨w.heap.size, 2, none⟩ (.slice a l.length cap)).setCell ⟨w.heap.size, 3, none⟩ (.int .i64 fr)).setCell ⟨w.heap.size, 4, none⟩ (.int .i64 b)) := by
  have h1 := h.base
  have hgb := owns_base ho g rfl
  have hgl := owns_lt ho g rfl
  have hI : IntsAt wr (some ⟨g, 0, none⟩) g 0 zs := ⟨fun _ => rfl, fun _ => hgl, fun i z hi => by
    have hli : i < zs.length := (List.getElem?_eq_some_iff.1 hi).1
    rw [Nat.zero_add]
    exact (ho.cellAt i (by omega)).trans (intCells_get zs i z hi)⟩
  have hne : l ≠ [] → w.heap.size ≠ b0 := fun hl e => by
    obtain ⟨cur, hc⟩ := h.st.ty hl
    rw [← e, h.res.it] at hc
    have := congrArg (fun o => match o with | some (Obj.cells _ t _) => t | _ => 0) hc
    simp at this
  refine ⟨q, s, fr, b, a, b0, o, cap, l, g, dcap, zs, rfl, h.len, hl, ?_, ?_, ?_⟩
  · iterate 5 (refine StepsAt.grown ?_ (grown_set _ _ _) (fun hl e => hne hl (by cases e; rfl)))
    exact h.st.st
  · iterate 5 (refine IntsAt.put ?_ (fun _ => by omega) _)
    exact hI
  · iterate 5 (refine Below.setCell ?_ (show w.heap.size ≤ w.heap.size from Nat.le_refl _) _)
    exact h.was
end

set_option maxRecDepth 20000 in
set_option maxHeartbeats 4000000 in
theorem next_draw (a0 : Option Addr) (cb co ccap : Nat) (zs0 : List Int) (w : World) (hz : BytesAt w a0 cb co zs0) (hl : zs0.length ≤ 1048576) (hc : zs0.length ≤ ccap) :
    Calls Try.prog 22 #[.slice a0 zs0.length ccap] w fun e w' => ∃ q s fr b a b0 o cap l g dcap zs, e = .returned (.tuple #[.agg #[.int .i64 q, .int .i64 s, .slice a l.length cap, .int .i64 fr, .int .i64 b], .slice (some ⟨g, 0, none⟩) zs.length dcap]) ∧
      l.length ≤ 41 ∧ zs.length ≤ 43 ∧ StepsAt w' a b0 o l ∧ IntsAt w' (some ⟨g, 0, none⟩) g 0 zs ∧ Below w.heap.size w w' := by
  obtain ⟨i0, hinf, hz0, hz1, hz2⟩ := info_parts int_info
  have P0 := PathAt.new w 0 0 0 0 (.slice none 0 0)
  have hz' : BytesAt (w.alloc (.cells #[.int .i64 0, .int .i64 0, .slice none 0 0, .int .i64 0, .int .i64 0] 27)) a0 cb co zs0 := ⟨hz.here, fun h => by have := hz.lt h; simp; omega, fun i z hi => by
    have hne : zs0 ≠ [] := by intro e; rw [e] at hi; simp at hi
    rw [World.cell?_of_block (w := w) (a := ⟨cb, co + i, none⟩) (Below.heap_alloc w _ cb (hz.lt hne))]
    exact hz.cell i z hi, hz.rng⟩
  go_enter Try.func22, Try.ntmps22
  go_wp2_with fail
  refine (open_any a0 cb co ccap zs0 _ hz' hl hc).mono ?_
  rintro e w1 ⟨R, rfl, r1, hb1, s1⟩
  rw [World.size_alloc] at r1 s1
  have P1 := P0.keep hb1 P0.lt
  have B1 : Below w.heap.size w w1 := ((Below.refl _ _).alloc (Nat.le_refl _) _).trans (hb1.mono (by simp))
  clear hb1 P0 hz'
  go_wp2_with fail
  refine (any_draw (w.heap.size + 1) R 0 _ r1 (by omega)).mono ?_
  rintro e w2 ⟨q, s, fr, b, a, b0, o, cap, l, p2, rfl, hl2, hs2, hb0, hp2, R2⟩
  have P2 := P1.grown R2.gr (by simp)
  have D3 : DrD w w1 (w2.alloc (.cells #[.int .i64 q, .int .i64 s, .slice a l.length cap, .int .i64 fr, .int .i64 b] 27)) (w.heap.size + 1) R p2 w2.heap.size q s fr b a b0 o cap l :=
    ⟨R2.alloc _, s1, rfl, B1, R2.size, P2.keep ((Below.refl _ _).alloc (Nat.le_refl _) _) P2.lt, PathAt.new w2 q s fr b _, hl2, hs2.alloc _, fun h => by have := hb0 h; omega⟩
  clear P1 B1 r1 R2 P2 hs2 hb0 hl2
  go_wp2
  generalize (w2.alloc (.cells #[.int .i64 q, .int .i64 s, .slice a l.length cap, .int .i64 fr, .int .i64 b] 27)) = w3 at *
  generalize w2.heap.size = X at *
  obtain ⟨⟨e0, e1, e2, e3, e4⟩, ef⟩ := D3.pa.cells
  have hXl := D3.pa.lt
  have hp2' : p2 ≤ 5300 := by omega
  go_cut [6, 7] (fun s6 s7 wc => ∃ (v : Value) (zs : List Int) (p' : Nat), s6 = v ∧ zs.length ≤ 43 ∧ wc.ownsRow w1.heap.size 3 1 v zs.length (intCells zs) ∧ p' ≤ 5400 ∧ DrD w w1 wc (w.heap.size + 1) R p' X q s fr b a b0 o cap l)
  case first =>
    go_region_held3 (fun w' => w'.cell? ⟨X, 0, none⟩ = some (.int .i64 q) ∧ w'.cell? ⟨X, 1, none⟩ = some (.int .i64 s) ∧ w'.cell? ⟨X, 2, none⟩ = some (.slice a l.length cap) ∧ w'.cell? ⟨X, 3, none⟩ = some (.int .i64 fr) ∧ w'.cell? ⟨X, 4, none⟩ = some (.int .i64 b))
      (simp [go_sem, World.cell?_alloc_lt, *])
      (first
        | (go_at_call 29; refine (asked_draw (w.heap.size + 1) R p2 q s fr b a b0 o cap l _ ?_ (by omega) D3.len ?_).mono ?_; (first | exact D3.drew.rd.rd | exact (D3.alloc _).drew.rd.rd | exact (D3.drew.alloc _).rd.rd); (first | exact D3.drew.st.st | exact (D3.alloc _).drew.st.st | exact (D3.drew.alloc _).st.st); rintro e w4 ⟨v4, az, p4, rfl, hal, ho4, hp4, R4⟩; have D4 : DrD w w1 w4 (w.heap.size + 1) R p4 X q s fr b a b0 o cap l := (by first | exact D3.drew.more R4.rd R4.gr | exact (D3.alloc _).drew.more R4.rd R4.gr | exact (D3.drew.alloc _).more R4.rd R4.gr); obtain ⟨⟨e0', e1', e2', e3', e4'⟩, ef'⟩ := D4.pa.cells; have hX4 := D4.pa.lt; obtain ⟨d, dg, dcap, rfl, hIa, _⟩ := ints_owned ho4)
        | (go_at_call 28; refine (flyGoS_any q s fr b a b0 o cap l _ 0 0 [] d dg 0 dcap az _ (by have := D3.len; omega) (by simp) (by omega) ?_ ⟨fun h => absurd rfl h, fun h => absurd rfl h, fun i z hi => by simp at hi⟩ ?_).mono ?_; (first | exact D4.st.st | exact D4.drew.st.st | exact (D4.alloc _).st.st); (first | exact hIa | exact hIa.alloc _); rintro e w5 ⟨v5, rfl, ho5, hb5⟩; have D5 : DrD w w1 w5 (w.heap.size + 1) R p4 X q s fr b a b0 o cap l := (by first | exact D4.below hb5 | exact D4.drew.below hb5 | exact (D4.alloc _).below hb5); obtain ⟨⟨e0'', e1'', e2'', e3'', e4''⟩, ef''⟩ := D5.pa.cells))
    all_goals
      go_wp2
      go_meet
      case rel =>
        have hbs := D4.rd.size
        refine ⟨v5, flownL q s fr b l [] az, p4, rfl, flown_len q s fr b l [] az (by have := D3.len; omega), ?_, by omega, D5⟩
        exact ⟨ho5.1, ho5.2.imp id fun ⟨g, cap, cur, h1, h2, h3⟩ => ⟨g, cap, cur, h1, by first | omega | (simp at h2; omega), h3⟩⟩
  case rest =>
    obtain ⟨v, zs, p3, hv, hzl, ho3, hp3, D4⟩ := hcut
    clear D3 e0 e1 e2 e3 e4 ef hXl
    have hE := owns_empty (w := wc) (base := w1.heap.size) (e := 3) (size := 1) D4.rd.size
    have hoA := owns_below ho3 ((Below.refl _ _).alloc (Nat.le_refl _) (.cells #[] 3))
    have D5 := D4.alloc (.cells #[] 3)
    clear D4 ho3
    obtain ⟨d, dg, dcap, hvd, _, _⟩ := ints_owned hoA
    subst hvd
    subst hv
    go_wp2_with fail
    refine (pick_any (w.heap.size + 1) R p3 ((zs.length : Int) + 1) _ D5.rd.rd (by omega)).mono ?_
    rintro e w4 ⟨rfl, r4, g4, s4⟩
    have hb5 := D5.base
    have hs5 := D5.rd.size
    have D6 := D5.more r4 g4
    have hE6 := owns_grown hE g4 (fun k e => by cases e; omega)
    have ho6 := owns_grown hoA g4 (fun k e => by cases e; omega)
    obtain ⟨kn, hkn⟩ : ∃ kn : Nat, pickV R p3 ((zs.length : Int) + 1) = (kn : Int) := Int.eq_ofNat_of_zero_le (pickV_range D5.rd.rd.rng (by omega) (by omega)).1
    have hk := (pickV_range (n := (zs.length : Int) + 1) D5.rd.rd.rng (show p3 ≤ 1000000000 by omega) (by omega)).2
    rw [hkn] at hk ⊢
    clear hkn D5 r4 g4 hE hoA
    have kk0 : (0 : Int) ≤ (kn : Int) := by omega
    have hkl : kn ≤ zs.length := by omega
    rcases ho6.2 with ⟨h1, h2⟩ | ⟨g, c, cur, h1, _, _, hc3, _⟩
    · obtain ⟨rfl, _, rfl⟩ : d = none ∧ zs.length = 0 ∧ dcap = 0 := by injection h1 with a1 a2 a3; exact ⟨a1, a2, a3⟩
      obtain rfl : zs = [] := List.eq_nil_of_length_eq_zero h2
      obtain rfl : kn = 0 := by simp at hkl; omega
      obtain ⟨⟨e0, e1, e2, e3, e4⟩, ef⟩ := D6.pa.cells
      obtain ⟨⟨f0, f1, f2, f3, f4⟩, ff⟩ := D6.res.cells
      have hXw : X ≠ w.heap.size := by have := D6.ge; have := D6.base; omega
      go_wp2
      refine bodyPost_ret (v := .tuple #[.agg #[.int .i64 q, .int .i64 s, .slice a l.length cap, .int .i64 fr, .int .i64 b], .slice (some ⟨wc.heap.size, 0, none⟩) ([] : List Int).length 0]) (by simp [results, Try.results22, go_sem, *]) rfl ?_
      exact D6.post2 (by first | omega | simp) hE6
    · obtain ⟨rfl, _, rfl⟩ : d = some ⟨g, 0, none⟩ ∧ zs.length = zs.length ∧ dcap = c := by injection h1 with a1 a2 a3; exact ⟨a1, a2, a3⟩
      have hkc : (kn : Int) ≤ (dcap : Int) := by omega
      have hnews : ∀ j u, (intCells (zs.take kn))[j]? = some u → w4.cell? ((⟨g, 0, none⟩ : Addr).add j) = some u := by
        intro j u hj
        have hjl : j < kn := by
          have := (List.getElem?_eq_some_iff.1 hj).1
          rw [intCells_length, List.length_take] at this
          omega
        rw [Addr.add_mid]
        have h5 := ho6.cellAt j (by omega)
        simp only [intCells, List.map_take, List.getElem?_take_of_lt hjl] at hj
        rw [Nat.zero_add, h5]
        exact hj
      have htl : (zs.take kn).length = kn := by rw [List.length_take]; omega
      go_wp2_with (at_builtin; refine wpList_append_own _ rfl (.tmp 22) (.tmp 29) 28 rfl w1.heap.size 3 i0 (.int .i64 0) 1 8 Try.underlying28 hinf hz0 hz1 hz2 rfl (by decide) (.slice (some ⟨wc.heap.size, 0, none⟩) 0 0) 0 [] rfl hE6 ⟨g, 0, none⟩ kn dcap (intCells (zs.take kn)) rfl (by rw [intCells_length, htl, Nat.mul_one]) hnews (intCells_one _) (by unfold maxLen; omega) (by omega) (by omega) ?_; intro v6 w6 ho7 hg7 hnil7; refine stopAt ?_)
      simp only [Nat.zero_add, List.nil_append] at ho7
      have D7 := D6.own hE6 hg7
      have hv6 : v6 ≠ .slice none 0 0 := fun e => by have := (hnil7.1 e).1; cases this
      obtain ⟨gg, gcap, rfl⟩ : ∃ gg gcap, v6 = .slice (some ⟨gg, 0, none⟩) kn gcap := by
        rcases ho7.2 with ⟨h1, _⟩ | ⟨g, c, cur, h1, _⟩
        · exact absurd h1 hv6
        · exact ⟨g, c, h1⟩
      have hfl : (zs.take kn).length ≤ 43 := by omega
      clear hv6 hnil7 hg7 hE6 ho6 D6 hnews hkc hc3 hk kk0 hkl
      generalize zs.take kn = fs at *
      subst htl
      refine (show wpList _ _ _ _ _ _ from ?_)
      clear hzl
      by_cases h0 : fs.length = 0
      · obtain rfl : fs = [] := List.eq_nil_of_length_eq_zero h0
        obtain ⟨⟨e0, e1, e2, e3, e4⟩, ef⟩ := D7.pa.cells
        obtain ⟨⟨f0, f1, f2, f3, f4⟩, ff⟩ := D7.res.cells
        have hXw : X ≠ w.heap.size := by have := D7.ge; have := D7.base; omega
        go_wp2
        refine bodyPost_ret (v := .tuple #[.agg #[.int .i64 q, .int .i64 s, .slice a l.length cap, .int .i64 fr, .int .i64 b], .slice (some ⟨gg, 0, none⟩) ([] : List Int).length gcap]) (by simp [results, Try.results22, go_sem, *]) rfl ?_
        exact D7.post2 (by first | omega | simp) ho7
      · have k0 : (0 : Int) < (fs.length : Int) := by omega
        go_wp2_with fail
        refine (pick_any (w.heap.size + 1) R (p3 + 1) 4 _ D7.rd.rd (by omega)).mono ?_
        rintro e w8 ⟨rfl, r8, g8, s8⟩
        have D8 := D7.more r8 g8
        have ho8 := owns_grown ho7 g8 (fun k e => by cases e; have := D7.base; omega)
        clear r8 g8 s8 ho7 D7
        generalize pickV R (p3 + 1) 4 = m
        by_cases hm : m = 0
        · subst hm
          go_wp2_with fail
          refine (pick_any (w.heap.size + 1) R (p3 + 1 + 1) (fs.length : Int) _ D8.rd.rd (by omega)).mono ?_
          rintro e w9 ⟨rfl, r9, g9, s9⟩
          have D9 := D8.more r9 g9
          have ho9 := owns_grown ho8 g9 (fun k e => by cases e; have := D8.base; omega)
          obtain ⟨kn, hkn⟩ : ∃ kn : Nat, pickV R (p3 + 1 + 1) (fs.length : Int) = (kn : Int) := Int.eq_ofNat_of_zero_le (pickV_range D8.rd.rd.rng (by omega) (by omega)).1
          have hk := (pickV_range (n := (fs.length : Int)) D8.rd.rd.rng (show p3 + 1 + 1 ≤ 1000000000 by omega) (by omega)).2
          rw [hkn] at hk ⊢
          clear hkn D8 r9 g9 s9 ho8
          have kk0 : (0 : Int) ≤ (kn : Int) := by omega
          have hkl : kn < fs.length := by omega
          obtain ⟨z, hzk⟩ : ∃ z, fs[kn]? = some z := ⟨_, List.getElem?_eq_getElem hkl⟩
          have x0 := (ho9.cellAt kn (by omega)).trans (intCells_get fs kn z hzk)
          have hgB : gg ≠ w.heap.size + 1 := by have := D9.base; have := owns_base ho9 gg rfl; omega
          have hgl : gg < w9.heap.size := owns_lt ho9 gg rfl
          clear hzk
          go_wp2
          have qn := ClsR.any w9 (w.heap.size + 1)
          have q0 : ∀ u : ClsR w9 (w.heap.size + 1), u.it.cell? ⟨gg, kn, none⟩ = some (.int .i64 z) := fun u => (ClsR.cell hgl hgB u _).trans x0
          refine region_picks 7 11 _ _ D9.rd.rd (by kernel_rfl) (by kernel_rfl) (by decide) (by decide) rfl rfl rfl (by kernel_rfl) ?_
          refine pc_quiet 7 rfl (by omega) ?_
          simp only [List.take_succ_cons, List.take_zero]
          repeat (go_big_quiet_step (fail))
          refine wpQuiet_nil ?_
          simp only [List.drop_succ_cons, List.drop_zero]
          refine pc_pick (by omega) rfl 7 (fun W' => by go_simp) ?_
          generalize pickV R (p3 + 1 + 1 + 1) 7 = z0
          simp only [Act.put, List.setIfInBounds_toArray, List.set_cons_succ, List.set_cons_zero]
          refine pc_quiet 3 rfl (by omega) ?_
          simp only [List.take_succ_cons, List.take_zero]
          repeat (go_big_quiet_step (fail))
          refine wpQuiet_nil ?_
          refine wpMoves_nil ?_
          intro w6' g6 s6 r6
          have D10 := D9.more r6 g6
          have ho10 := owns_grown ho9 g6 (fun k e => by cases e; have := D9.base; omega)
          clear q0 qn x0 D9 ho9 r6 g6 s6
          refine any_end1 (N := 11) _ rfl (by kernel_rfl) (by kernel_rfl) rfl rfl ?_
          generalize wrap64 (wrap64 (z + z0) - 3) = zn
          obtain ⟨u0, hc⟩ := some_get2 (ho10.cellAt kn (by omega)) ho10.1 (by omega)
          have hf := ho10.frozenAt
          have ho11 := owns_put ho10 (j := kn) (by omega) (.int .i64 zn)
          have D11 := D10.own ho10 (w' := w6'.setCell ⟨gg, kn, none⟩ (.int .i64 zn)) (grown_set w6' ⟨gg, kn, none⟩ (.int .i64 zn))
          have hcs : (intCells fs).set kn (.int .i64 zn) = intCells (fs.set kn zn) := by simp [intCells, List.map_set]
          rw [hcs] at ho11
          have ho12 : (w6'.setCell ⟨gg, kn, none⟩ (.int .i64 zn)).ownsRow w1.heap.size 3 1 (.slice (some ⟨gg, 0, none⟩) fs.length gcap) (fs.set kn zn).length (intCells (fs.set kn zn)) := by rw [List.length_set]; exact ho11
          clear hcs ho11 ho10 D10
          unfold Oper.wp
          go_simp
          clear hc hf
          generalize w6'.setCell ⟨gg, kn, none⟩ (.int .i64 zn) = w7 at *
          have hzl2 : (fs.set kn zn).length ≤ 43 := by rw [List.length_set]; exact hfl
          have hzz : fs.length = (fs.set kn zn).length := by rw [List.length_set]
          rw [hzz] at ho12 ⊢
          generalize fs.set kn zn = ys at *
          clear hzz
          obtain ⟨⟨e0, e1, e2, e3, e4⟩, ef⟩ := D11.pa.cells
          obtain ⟨⟨f0, f1, f2, f3, f4⟩, ff⟩ := D11.res.cells
          have hXw : X ≠ w.heap.size := by have := D11.ge; have := D11.base; omega
          go_wp2
          refine bodyPost_ret (v := .tuple #[.agg #[.int .i64 q, .int .i64 s, .slice a l.length cap, .int .i64 fr, .int .i64 b], .slice (some ⟨gg, 0, none⟩) ys.length gcap]) (by simp [results, Try.results22, go_sem, *]) rfl ?_
          exact D11.post2 (by first | omega | simp) ho12
        · have hm' : (m == 0) = false := beq_eq_false_iff_ne.2 hm
          obtain ⟨⟨e0, e1, e2, e3, e4⟩, ef⟩ := D8.pa.cells
          obtain ⟨⟨f0, f1, f2, f3, f4⟩, ff⟩ := D8.res.cells
          have hXw : X ≠ w.heap.size := by have := D8.ge; have := D8.base; omega
          go_wp2
          refine bodyPost_ret (v := .tuple #[.agg #[.int .i64 q, .int .i64 s, .slice a l.length cap, .int .i64 fr, .int .i64 b], .slice (some ⟨gg, 0, none⟩) fs.length gcap]) (by simp [results, Try.results22, go_sem, *]) rfl ?_
          exact D8.post2 (by first | omega | simp) ho8
end Go.Proofs.Ytndfacmfjilbkaa
