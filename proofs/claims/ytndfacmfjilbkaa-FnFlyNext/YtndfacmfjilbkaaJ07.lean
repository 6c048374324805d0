/- Joined texts: Draw4, WfAllow, EndMath, WfSpan, Meth, LawImpl2, LawImpl3, SpLaw, SpanWin. -/
import Derived.Deep.RegionHeld3
import Derived.BigQuiet
import Derived.Laws.StructEq
import Derived.Test.YtndfacmfjilbkaaJ06
import Derived.Test.YtndfacmfjilbkaaJ03
import Derived.Test.YtndfacmfjilbkaaJ01
import Derived.Test.YtndfacmfjilbkaaJ02
import Derived.Test.YtndfacmfjilbkaaJ05
namespace Go.Proofs.Ytndfacmfjilbkaa
open Go.RowKit

/-- The bytes zs lie in block b from offset o on. -/
structure BytesAt (w : World) (a : Option Addr) (b o : Nat) (zs : List Int) : Prop where
  here : zs ≠ [] → a = some ⟨b, o, none⟩
  lt : zs ≠ [] → b < w.heap.size
  cell : ∀ (i : Nat) (z : Int), zs[i]? = some z → w.cell? ⟨b, o + i, none⟩ = some (.int .u8 z)
  rng : ∀ (i : Nat) (z : Int), zs[i]? = some z → 0 ≤ z ∧ z < 256

theorem open_any (a : Option Addr) (b o cap : Nat) (zs : List Int) (w : World) (hz : BytesAt w a b o zs) (hl : zs.length ≤ 1048576) (hc : zs.length ≤ cap) :
    Calls Try.prog 26 #[.slice a zs.length cap] w fun e w' => ∃ R, e = .returned (.pointer (some ⟨w.heap.size, 0, none⟩)) ∧ RdAt w' w.heap.size R 0 ∧ Below w.heap.size w w' ∧ w'.heap.size = w.heap.size + 1 := by
  by_cases h : 2000 < zs.length
  · have hne : zs ≠ [] := by intro e; rw [e] at h; simp at h
    obtain rfl := hz.here hne
    have h1 : (2000 : Int) < (zs.length : Int) := by omega
    have h2 : (2000 : Int) ≤ (cap : Int) := by omega
    go_enter Try.func26, Try.ntmps26
    go_wp2
    go_ret
    refine ⟨⟨some ⟨b, o, none⟩, b, o, cap, zs.take 2000⟩, rfl, ?_, (Below.refl _ _).alloc (Nat.le_refl _) _, by simp⟩
    have hlt := hz.lt hne
    have hlen : (zs.take 2000).length = 2000 := by simp; omega
    refine ⟨by rw [hlen]; exact heap_alloc_new w _, fun _ => rfl, fun _ => hlt, fun i z hi => ?_, fun i z hi => ?_, by rw [hlen]; exact Nat.le_refl _⟩
    · have hi2 : i < 2000 := by rw [← hlen]; exact (List.getElem?_eq_some_iff.1 hi).1
      rw [List.getElem?_take_of_lt hi2] at hi
      rw [World.cell?_of_block (w := w) (a := ⟨b, o + i, none⟩) (Below.heap_alloc w _ b hlt)]
      exact hz.cell i z hi
    · have hi2 : i < 2000 := by rw [← hlen]; exact (List.getElem?_eq_some_iff.1 hi).1
      rw [List.getElem?_take_of_lt hi2] at hi
      exact hz.rng i z hi
  · have h1 : ¬ (2000 : Int) < (zs.length : Int) := by omega
    go_enter Try.func26, Try.ntmps26
    go_wp2
    go_ret
    refine ⟨rfl, ⟨⟨a, b, o, cap, zs⟩, ?_⟩, (Below.refl _ _).alloc (Nat.le_refl _) _, by simp⟩
    refine ⟨heap_alloc_new w _, hz.here, hz.lt, fun i z hi => ?_, hz.rng, by show zs.length ≤ 2000; omega⟩
    have hne : zs ≠ [] := by intro e; rw [e] at hi; simp at hi
    rw [World.cell?_of_block (w := w) (a := ⟨b, o + i, none⟩) (Below.heap_alloc w _ b (hz.lt hne))]
    exact hz.cell i z hi

theorem flown_len (q s fr b : Int) (l : List Stp) (cs asks : List Int) (hl : l.length ≤ 41) : (flownL q s fr b l cs asks).length ≤ 43 := by
  unfold flownL
  split
  · rename_i h
    by_cases e : (goF q s fr b l cs asks).length = l.length + 1
    · omega
    · unfold flownB at h
      rw [lawB_len e] at h
      cases h
  · simp

theorem IntsAt.put {w : World} {a : Option Addr} {b o : Nat} {zs : List Int} (h : IntsAt w a b o zs) {k j : Nat} (hk : zs ≠ [] → k ≠ b) (v : Value) : IntsAt (w.setCell ⟨k, j, none⟩ v) a b o zs where
  here := h.here
  lt hl := by have := h.lt hl; simpa [World.setCell] using this
  cell i z hi := by
    have hne : zs ≠ [] := by intro e; subst e; simp at hi
    rw [World.cell?_setCell_other _ _ _ _ (by intro e; have := congrArg Addr.block e; exact hk hne this)]
    exact h.cell i z hi

/-- What lies when a path has been drawn. -/
structure DrD (w w1 wr : World) (B : Nat) (R : Rdr) (p X : Nat) (q s fr b : Int) (a : Option Addr) (b0 o cap : Nat) (l : List Stp) : Prop where
  rd : RdW w1 wr B R p
  base : w1.heap.size = w.heap.size + 2
  isB : B = w.heap.size + 1
  old : Below w.heap.size w w1
  ge : w1.heap.size ≤ X
  res : PathAt wr w.heap.size 0 0 0 0 (.slice none 0 0)
  pa : PathAt wr X q s fr b (.slice a l.length cap)
  len : l.length ≤ 41
  st : StepsIn wr a b0 o l
  b0B : l ≠ [] → b0 ≠ B
section
variable {w w1 wr w' : World} {B : Nat} {R : Rdr} {p p' X : Nat} {q s fr b : Int} {a : Option Addr} {b0 o cap : Nat} {l : List Stp}
theorem DrD.more (h : DrD w w1 wr B R p X q s fr b a b0 o cap l) (hr : RdAt w' B R p') (hg : wr.grownBy w' (some B)) : DrD w w1 w' B R p' X q s fr b a b0 o cap l := by
  have h1 := h.base
  have h2 := h.isB
  have h3 := h.ge
  exact ⟨h.rd.more hr hg, h.base, h.isB, h.old, h.ge, h.res.grown hg (by simp; omega), h.pa.grown hg (by simp; omega), h.len, h.st.grown hg (fun hl e => h.b0B hl (by cases e; rfl)), h.b0B⟩
theorem DrD.below (h : DrD w w1 wr B R p X q s fr b a b0 o cap l) (hb : Below wr.heap.size wr w') : DrD w w1 w' B R p X q s fr b a b0 o cap l :=
  ⟨h.rd.below hb, h.base, h.isB, h.old, h.ge, h.res.keep hb h.res.lt, h.pa.keep hb h.pa.lt, h.len, h.st.below hb, h.b0B⟩
theorem DrD.drew (h : DrD w w1 wr B R p X q s fr b a b0 o cap l) : DrD w w1 wr.drew B R p X q s fr b a b0 o cap l := h.below (Below.refl _ _).drew
theorem DrD.alloc (h : DrD w w1 wr B R p X q s fr b a b0 o cap l) (ob : Obj) : DrD w w1 (wr.alloc ob) B R p X q s fr b a b0 o cap l := h.below ((Below.refl _ _).alloc (Nat.le_refl _) ob)
theorem DrD.was (h : DrD w w1 wr B R p X q s fr b a b0 o cap l) : Below w.heap.size w wr := by
  have h1 := h.base
  have h2 := h.isB
  have h3 := h.rd.gr
  exact h.old.trans ⟨h3.os, h3.tape, h3.output, h3.size, fun k hk => h3.block k (by omega) (fun e => by cases e; omega)⟩
theorem DrD.own (h : DrD w w1 wr B R p X q s fr b a b0 o cap l) {v : Value} {n : Nat} {xs : List Value} (ho : wr.ownsRow w1.heap.size 3 1 v n xs) (hg : wr.grownBy w' v.ownBlock) : DrD w w1 w' B R p X q s fr b a b0 o cap l := by
  have h1 := h.base
  have h2 := h.isB
  have h3 := h.ge
  have hv := owns_base ho
  have ne : ∀ {k : Nat} {cs : Array Value} {t : TypeId}, wr.heap[k]? = some (.cells cs t (0, 0)) → t ≠ 3 → v.ownBlock ≠ some k := fun hk ht e => by
    rcases ho.2 with ⟨rfl, _⟩ | ⟨g, cap, cur, rfl, _, hh, _⟩
    · simp [Value.ownBlock] at e
    · simp [Value.ownBlock] at e
      subst e
      rw [hk] at hh
      have := congrArg (fun o => match o with | some (Obj.cells _ t _) => t | _ => 0) hh
      exact ht (by simpa using this)
  refine ⟨h.rd.grown hg (fun k e => hv k e), h.base, h.isB, h.old, h.ge, h.res.grown hg (ne h.res.it (by decide)), h.pa.grown hg (ne h.pa.it (by decide)), h.len, h.st.grown hg (fun hl => by obtain ⟨cur, hc⟩ := h.st.ty hl; exact ne hc (by decide)), h.b0B⟩
theorem DrD.post (h : DrD w w1 wr B R p X q s fr b a b0 o cap l) {d : Option Addr} {dg do_ dcap : Nat} {zs : List Int} (hl : zs.length ≤ 1000) (hI : IntsAt wr d dg do_ zs) (hd : zs ≠ [] → dg ≠ w.heap.size) :
    ∃ q' s' fr' b' a' b0' o' cap' l' c db do' dc zs', Ending.returned (.tuple #[.agg #[.int .i64 q, .int .i64 s, .slice a l.length cap, .int .i64 fr, .int .i64 b], .slice d zs.length dcap]) = .returned (.tuple #[.agg #[.int .i64 q', .int .i64 s', .slice a' l'.length cap', .int .i64 fr', .int .i64 b'], .slice c zs'.length dc]) ∧
      l'.length ≤ 41 ∧ StepsAt (((((wr.setCell ⟨w.heap.size, 0, none⟩ (.int .i64 q)).setCell ⟨w.heap.size, 1, none⟩ (.int .i64 s)).setCell ⟨w.heap.size, 2, none⟩ (.slice a l.length cap)).setCell ⟨w.heap.size, 3, none⟩ (.int .i64 fr)).setCell ⟨w.heap.size, 4, none⟩ (.int .i64 b)) a' b0' o' l' ∧ zs'.length ≤ 1000 ∧
      IntsAt (((((wr.setCell ⟨w.heap.size, 0, none⟩ (.int .i64 q)).setCell ⟨w.heap.size, 1, none⟩ (.int .i64 s)).setCell ⟨w.heap.size, 2, none⟩ (.slice a l.length cap)).setCell ⟨w.heap.size, 3, none⟩ (.int .i64 fr)).setCell ⟨w.heap.size, 4, none⟩ (.int .i64 b)) c db do' zs' ∧
      Below w.heap.size w (((((wr.setCell ⟨w.heap.size, 0, none⟩ (.int .i64 q)).setCell ⟨w.heap.size, 1, none⟩ (.int .i64 s)).setCell ⟨w.heap.size, 2, none⟩ (.slice a l.length cap)).setCell ⟨w.heap.size, 3, none⟩ (.int .i64 fr)).setCell ⟨w.heap.size, 4, none⟩ (.int .i64 b)) := by
  have h1 := h.base
  have h2 := h.isB
  have h3 := h.rd.size
  have hne : l ≠ [] → w.heap.size ≠ b0 := fun hl e => by
    obtain ⟨cur, hc⟩ := h.st.ty hl
    rw [← e, h.res.it] at hc
    have := congrArg (fun o => match o with | some (Obj.cells _ t _) => t | _ => 0) hc
    simp at this
  refine ⟨q, s, fr, b, a, b0, o, cap, l, d, dg, do_, dcap, zs, rfl, h.len, ?_, hl, ?_, ?_⟩
  · iterate 5 (refine StepsAt.grown ?_ (grown_set _ _ _) (fun hl e => hne hl (by cases e; rfl)))
    exact h.st.st
  · iterate 5 (refine IntsAt.put ?_ (fun hl => Ne.symm (hd hl)) _)
    exact hI
  · iterate 5 (refine Below.setCell ?_ (show w.heap.size ≤ w.heap.size from Nat.le_refl _) _)
    exact h.was
end

set_option maxRecDepth 20000 in
set_option maxHeartbeats 4000000 in
theorem lawful_draw (a0 : Option Addr) (cb co ccap : Nat) (zs0 : List Int) (w : World) (hz : BytesAt w a0 cb co zs0) (hl : zs0.length ≤ 1048576) (hc : zs0.length ≤ ccap) :
    Calls Try.prog 6 #[.slice a0 zs0.length ccap] w fun e w' => ∃ q s fr b a b0 o cap l c db do_ dcap zs, e = .returned (.tuple #[.agg #[.int .i64 q, .int .i64 s, .slice a l.length cap, .int .i64 fr, .int .i64 b], .slice c zs.length dcap]) ∧
      l.length ≤ 41 ∧ StepsAt w' a b0 o l ∧ zs.length ≤ 1000 ∧ IntsAt w' c db do_ zs ∧ Below w.heap.size w w' := by
  obtain ⟨i0, hinf, hz0, hz1, hz2⟩ := info_parts int_info
  have P0 := PathAt.new w 0 0 0 0 (.slice none 0 0)
  have hz' : BytesAt (w.alloc (.cells #[.int .i64 0, .int .i64 0, .slice none 0 0, .int .i64 0, .int .i64 0] 27)) a0 cb co zs0 := ⟨hz.here, fun h => by have := hz.lt h; simp; omega, fun i z hi => by
    have hne : zs0 ≠ [] := by intro e; rw [e] at hi; simp at hi
    rw [World.cell?_of_block (w := w) (a := ⟨cb, co + i, none⟩) (Below.heap_alloc w _ cb (hz.lt hne))]
    exact hz.cell i z hi, hz.rng⟩
  go_enter Try.func6, Try.ntmps6
  go_wp2_with fail
  refine (open_any a0 cb co ccap zs0 _ hz' hl hc).mono ?_
  rintro e w1 ⟨R, rfl, r1, hb1, s1⟩
  rw [World.size_alloc] at r1 s1
  have P1 := P0.keep hb1 P0.lt
  have B1 : Below w.heap.size w w1 := ((Below.refl _ _).alloc (Nat.le_refl _) _).trans (hb1.mono (by simp))
  clear hb1 P0 hz'
  go_wp2_with fail
  refine (any_draw (w.heap.size + 1) R 0 _ r1 (by omega)).mono ?_
  rintro e w2 ⟨q, s, fr, b, a, b0, o, cap, l, p2, rfl, hl2, hs2, hb0, hp2, R2⟩
  have P2 := P1.grown R2.gr (by simp)
  have D3 : DrD w w1 (w2.alloc (.cells #[.int .i64 q, .int .i64 s, .slice a l.length cap, .int .i64 fr, .int .i64 b] 27)) (w.heap.size + 1) R p2 w2.heap.size q s fr b a b0 o cap l :=
    ⟨R2.alloc _, s1, rfl, B1, R2.size, P2.keep ((Below.refl _ _).alloc (Nat.le_refl _) _) P2.lt, PathAt.new w2 q s fr b _, hl2, hs2.alloc _, fun h => by have := hb0 h; omega⟩
  clear P1 B1 r1 R2 P2 hs2 hb0 hl2
  go_wp2
  generalize (w2.alloc (.cells #[.int .i64 q, .int .i64 s, .slice a l.length cap, .int .i64 fr, .int .i64 b] 27)) = w3 at *
  generalize w2.heap.size = X at *
  obtain ⟨⟨e0, e1, e2, e3, e4⟩, ef⟩ := D3.pa.cells
  have hXl := D3.pa.lt
  have hp2' : p2 ≤ 5300 := by omega
  go_cut [6, 7] (fun s6 s7 wc => ∃ (v : Value) (zs : List Int) (p' : Nat), s6 = v ∧ zs.length ≤ 43 ∧ wc.ownsRow w1.heap.size 3 1 v zs.length (intCells zs) ∧ p' ≤ 5400 ∧ DrD w w1 wc (w.heap.size + 1) R p' X q s fr b a b0 o cap l)
  case first =>
    go_region_held3 (fun w' => w'.cell? ⟨X, 0, none⟩ = some (.int .i64 q) ∧ w'.cell? ⟨X, 1, none⟩ = some (.int .i64 s) ∧ w'.cell? ⟨X, 2, none⟩ = some (.slice a l.length cap) ∧ w'.cell? ⟨X, 3, none⟩ = some (.int .i64 fr) ∧ w'.cell? ⟨X, 4, none⟩ = some (.int .i64 b))
      (simp [go_sem, World.cell?_alloc_lt, *])
      (first
        | (go_at_call 29; refine (asked_draw (w.heap.size + 1) R p2 q s fr b a b0 o cap l _ ?_ (by omega) D3.len ?_).mono ?_; (first | exact D3.drew.rd.rd | exact (D3.alloc _).drew.rd.rd | exact (D3.drew.alloc _).rd.rd); (first | exact D3.drew.st.st | exact (D3.alloc _).drew.st.st | exact (D3.drew.alloc _).st.st); rintro e w4 ⟨v4, az, p4, rfl, hal, ho4, hp4, R4⟩; have D4 : DrD w w1 w4 (w.heap.size + 1) R p4 X q s fr b a b0 o cap l := (by first | exact D3.drew.more R4.rd R4.gr | exact (D3.alloc _).drew.more R4.rd R4.gr | exact (D3.drew.alloc _).more R4.rd R4.gr); obtain ⟨⟨e0', e1', e2', e3', e4'⟩, ef'⟩ := D4.pa.cells; have hX4 := D4.pa.lt; obtain ⟨d, dg, dcap, rfl, hIa, _⟩ := ints_owned ho4)
        | (go_at_call 28; refine (flyGoS_any q s fr b a b0 o cap l _ 0 0 [] d dg 0 dcap az _ (by have := D3.len; omega) (by simp) (by omega) ?_ ⟨fun h => absurd rfl h, fun h => absurd rfl h, fun i z hi => by simp at hi⟩ ?_).mono ?_; (first | exact D4.st.st | exact D4.drew.st.st | exact (D4.alloc _).st.st); (first | exact hIa | exact hIa.alloc _); rintro e w5 ⟨v5, rfl, ho5, hb5⟩; have D5 : DrD w w1 w5 (w.heap.size + 1) R p4 X q s fr b a b0 o cap l := (by first | exact D4.below hb5 | exact D4.drew.below hb5 | exact (D4.alloc _).below hb5); obtain ⟨⟨e0'', e1'', e2'', e3'', e4''⟩, ef''⟩ := D5.pa.cells))
    all_goals
      go_wp2
      go_meet
      case rel =>
        have hbs := D4.rd.size
        refine ⟨v5, flownL q s fr b l [] az, p4, rfl, flown_len q s fr b l [] az (by have := D3.len; omega), ?_, by omega, D5⟩
        exact ⟨ho5.1, ho5.2.imp id fun ⟨g, cap, cur, h1, h2, h3⟩ => ⟨g, cap, cur, h1, by first | omega | (simp at h2; omega), h3⟩⟩
  case rest =>
    obtain ⟨v, zs, p3, hv, hzl, ho3, hp3, D4⟩ := hcut
    clear D3 e0 e1 e2 e3 e4 ef hXl
    obtain ⟨d, dg, dcap, rfl, hI3, hdg⟩ := ints_owned ho3
    subst hv
    by_cases h0 : zs.length = 0
    · have hzn : zs = [] := List.eq_nil_of_length_eq_zero h0
      subst hzn
      go_wp2_with fail
      refine (pick_any (w.heap.size + 1) R (p3) 16 _ D4.rd.rd (by omega)).mono ?_
      rintro e w20 ⟨rfl, r20, g20, s20⟩
      have D20 := D4.more r20 g20
      have ho20 := owns_grown ho3 g20 (fun k e => by cases e; have := D4.base; omega)
      clear r20 g20 s20 ho3 D4
      generalize pickV R (p3) 16 = m20
      obtain ⟨⟨e0, e1, e2, e3, e4⟩, ef⟩ := D20.pa.cells
      obtain ⟨⟨f0, f1, f2, f3, f4⟩, ff⟩ := D20.res.cells
      have hXw : X ≠ w.heap.size := by have := D20.ge; have := D20.base; omega
      have hb20 := D20.base
      have hs20 := D20.rd.size
      by_cases m0 : m20 = 0
      · subst m0
        have hnew := one_new w20 (.int .i64 1) 3
        have hoa := owns_below ho20 ((Below.refl _ _).alloc (Nat.le_refl _) (.cells #[.int .i64 1] 3))
        have D21 := D20.alloc (.cells #[.int .i64 1] 3)
        go_wp2_with (at_builtin; refine wpList_append_own _ rfl (.tmp 49) (.tmp 50) 28 rfl w1.heap.size 3 i0 (.int .i64 0) 1 8 Try.underlying28 hinf hz0 hz1 hz2 rfl (by decide) (.slice d 0 dcap) ([]).length (intCells ([])) rfl hoa ⟨w20.heap.size, 0, none⟩ 1 1 [.int .i64 1] rfl rfl hnew (by simp [Value.oneCell']) (by unfold maxLen; omega) (by omega) (by simp; omega) ?_; intro v6 w6 ho6 hg6 _; rw [← intCells_snoc] at ho6; have D22 := D21.own hoa hg6; obtain ⟨⟨e0', e1', e2', e3', e4'⟩, ef'⟩ := D22.pa.cells; obtain ⟨⟨f0', f1', f2', f3', f4'⟩, ff'⟩ := D22.res.cells)
        obtain ⟨d6, dg6, dcap6, rfl, hI6, hdg6⟩ := ints_owned (zs := ([]) ++ [1]) (by simpa using ho6)
        refine bodyPost_ret (v := .tuple #[.agg #[.int .i64 q, .int .i64 s, .slice a l.length cap, .int .i64 fr, .int .i64 b], .slice d6 (([]) ++ [1]).length dcap6]) (by simp [results, Try.results6, go_sem, *]) rfl ?_
        exact D22.post (by simp <;> omega) hI6 (fun h => by have := owns_base ho6 dg6 (hdg6 h); omega)
      · have m0' : (m20 == 0) = false := beq_eq_false_iff_ne.2 m0
        by_cases m1 : m20 = 1
        · subst m1
          clear m0 m0'
          have hnew := two_new w20 (.int .i64 (-9223372036854775808)) (.int .i64 9223372036854775807) 3
          have hoa := owns_below ho20 ((Below.refl _ _).alloc (Nat.le_refl _) (.cells #[.int .i64 (-9223372036854775808), .int .i64 9223372036854775807] 3))
          have D21 := D20.alloc (.cells #[.int .i64 (-9223372036854775808), .int .i64 9223372036854775807] 3)
          go_wp2_with (at_builtin; refine wpList_append_own _ rfl (.tmp 54) (.tmp 55) 28 rfl w1.heap.size 3 i0 (.int .i64 0) 1 8 Try.underlying28 hinf hz0 hz1 hz2 rfl (by decide) (.slice d 0 dcap) ([]).length (intCells ([])) rfl hoa ⟨w20.heap.size, 0, none⟩ 2 2 [.int .i64 (-9223372036854775808), .int .i64 9223372036854775807] rfl rfl hnew (by simp [Value.oneCell']) (by unfold maxLen; omega) (by omega) (by simp; omega) ?_; intro v6 w6 ho6 hg6 _; have D22 := D21.own hoa hg6; obtain ⟨⟨e0', e1', e2', e3', e4'⟩, ef'⟩ := D22.pa.cells; obtain ⟨⟨f0', f1', f2', f3', f4'⟩, ff'⟩ := D22.res.cells)
          obtain ⟨d6, dg6, dcap6, rfl, hI6, hdg6⟩ := ints_owned (zs := ([]) ++ [-9223372036854775808, 9223372036854775807]) (by simpa [intCells] using ho6)
          refine bodyPost_ret (v := .tuple #[.agg #[.int .i64 q, .int .i64 s, .slice a l.length cap, .int .i64 fr, .int .i64 b], .slice d6 (([]) ++ [-9223372036854775808, 9223372036854775807]).length dcap6]) (by simp [results, Try.results6, go_sem, *]) rfl ?_
          exact D22.post (by simp <;> omega) hI6 (fun h => by have := owns_base ho6 dg6 (hdg6 h); omega)
        · have m1' : (m20 == 1) = false := beq_eq_false_iff_ne.2 m1
          obtain ⟨d6, dg6, dcap6, hv6, hI6, hdg6⟩ := ints_owned ho20
          cases hv6
          go_wp2
          refine bodyPost_ret (v := .tuple #[.agg #[.int .i64 q, .int .i64 s, .slice a l.length cap, .int .i64 fr, .int .i64 b], .slice d 0 dcap]) (by simp [results, Try.results6, go_sem, *]) rfl ?_
          exact D20.post (by first | omega | simp) hI6 (fun h => by have := owns_base ho20 dg6 (hdg6 h); omega)
    · have k0 : (0 : Int) < (zs.length : Int) := by omega
      go_wp2_with fail
      refine (pick_any (w.heap.size + 1) R p3 2 _ D4.rd.rd (by omega)).mono ?_
      rintro e w4 ⟨rfl, r4, g4, s4⟩
      have D5 := D4.more r4 g4
      have ho5 := owns_grown ho3 g4 (fun k e => by cases e; have := D4.base; omega)
      clear r4 g4 s4 ho3 hI3 D4
      generalize pickV R p3 2 = m
      by_cases hm : m = 0
      · subst hm
        obtain ⟨g, gcap, hgv, hg1, hg2⟩ := owns_some ho5 (by omega)
        cases hgv
        go_wp2_with fail
        refine (pick_any (w.heap.size + 1) R (p3 + 1) (zs.length : Int) _ D5.rd.rd (by omega)).mono ?_
        rintro e w5 ⟨rfl, r5, g5, s5⟩
        have D6 := D5.more r5 g5
        have ho6 := owns_grown ho5 g5 (fun k e => by cases e; have := D5.base; omega)
        obtain ⟨kn, hkn⟩ : ∃ kn : Nat, pickV R (p3 + 1) (zs.length : Int) = (kn : Int) := Int.eq_ofNat_of_zero_le (pickV_range D5.rd.rd.rng (by omega) (by omega)).1
        have hk := (pickV_range (n := (zs.length : Int)) D5.rd.rd.rng (show p3 + 1 ≤ 1000000000 by omega) (by omega)).2
        rw [hkn] at hk ⊢
        clear hkn D5 r5 g5 s5 ho5
        have kk0 : (0 : Int) ≤ (kn : Int) := by omega
        have hkl : kn < zs.length := by omega
        obtain ⟨z, hzk⟩ : ∃ z, zs[kn]? = some z := ⟨_, List.getElem?_eq_getElem hkl⟩
        have x0 := (ho6.cellAt kn (by omega)).trans (intCells_get zs kn z hzk)
        have hgB : g ≠ w.heap.size + 1 := by have := D6.base; omega
        have hgl : g < w5.heap.size := owns_lt ho6 g rfl
        clear hzk
        go_wp2
        have qn := ClsR.any w5 (w.heap.size + 1)
        have q0 : ∀ u : ClsR w5 (w.heap.size + 1), u.it.cell? ⟨g, kn, none⟩ = some (.int .i64 z) := fun u => (ClsR.cell hgl hgB u _).trans x0
        refine region_picks 7 11 _ _ D6.rd.rd (by kernel_rfl) (by kernel_rfl) (by decide) (by decide) rfl rfl rfl (by kernel_rfl) ?_
        refine pc_quiet 7 rfl (by omega) ?_
        simp only [List.take_succ_cons, List.take_zero]
        repeat (go_big_quiet_step (fail))
        refine wpQuiet_nil ?_
        simp only [List.drop_succ_cons, List.drop_zero]
        refine pc_pick (by omega) rfl 5 (fun W' => by go_simp) ?_
        generalize pickV R (p3 + 1 + 1) 5 = z0
        simp only [Act.put, List.setIfInBounds_toArray, List.set_cons_succ, List.set_cons_zero]
        refine pc_quiet 3 rfl (by omega) ?_
        simp only [List.take_succ_cons, List.take_zero]
        repeat (go_big_quiet_step (fail))
        refine wpQuiet_nil ?_
        refine wpMoves_nil ?_
        intro w6 g6 s6 r6
        have D7 := D6.more r6 g6
        have ho7 := owns_grown ho6 g6 (fun k e => by cases e; have := D6.base; omega)
        clear q0 qn x0 D6 ho6 r6 g6 s6
        refine any_end1 (N := 11) _ rfl (by kernel_rfl) (by kernel_rfl) rfl rfl ?_
        generalize wrap64 (wrap64 (z + z0) - 2) = zn
        obtain ⟨u0, hc⟩ := some_get2 (ho7.cellAt kn (by omega)) ho7.1 (by omega)
        have hf := ho7.frozenAt
        have ho8 := owns_put ho7 (j := kn) (by omega) (.int .i64 zn)
        have D8 := D7.own ho7 (w' := w6.setCell ⟨g, kn, none⟩ (.int .i64 zn)) (grown_set w6 ⟨g, kn, none⟩ (.int .i64 zn))
        have hcs : (intCells zs).set kn (.int .i64 zn) = intCells (zs.set kn zn) := by simp [intCells, List.map_set]
        rw [hcs] at ho8
        have ho9 : (w6.setCell ⟨g, kn, none⟩ (.int .i64 zn)).ownsRow w1.heap.size 3 1 (.slice (some ⟨g, 0, none⟩) zs.length dcap) (zs.set kn zn).length (intCells (zs.set kn zn)) := by rw [List.length_set]; exact ho8
        clear hcs ho8 ho7 D7
        unfold Oper.wp
        go_simp
        clear hc hf
        generalize w6.setCell ⟨g, kn, none⟩ (.int .i64 zn) = w7 at *
        have hzl2 : (zs.set kn zn).length ≤ 43 := by rw [List.length_set]; exact hzl
        have hzz : zs.length = (zs.set kn zn).length := by rw [List.length_set]
        rw [hzz] at ho9 ⊢
        generalize zs.set kn zn = ys at *
        clear hzz
        go_wp2_with fail
        refine (pick_any (w.heap.size + 1) R (p3 + 1 + 1 + 1) 16 _ D8.rd.rd (by omega)).mono ?_
        rintro e w20 ⟨rfl, r20, g20, s20⟩
        have D20 := D8.more r20 g20
        have ho20 := owns_grown ho9 g20 (fun k e => by cases e; have := D8.base; omega)
        clear r20 g20 s20 ho9 D8
        generalize pickV R (p3 + 1 + 1 + 1) 16 = m20
        obtain ⟨⟨e0, e1, e2, e3, e4⟩, ef⟩ := D20.pa.cells
        obtain ⟨⟨f0, f1, f2, f3, f4⟩, ff⟩ := D20.res.cells
        have hXw : X ≠ w.heap.size := by have := D20.ge; have := D20.base; omega
        have hb20 := D20.base
        have hs20 := D20.rd.size
        by_cases m0 : m20 = 0
        · subst m0
          have hnew := one_new w20 (.int .i64 1) 3
          have hoa := owns_below ho20 ((Below.refl _ _).alloc (Nat.le_refl _) (.cells #[.int .i64 1] 3))
          have D21 := D20.alloc (.cells #[.int .i64 1] 3)
          go_wp2_with (at_builtin; refine wpList_append_own _ rfl (.tmp 49) (.tmp 50) 28 rfl w1.heap.size 3 i0 (.int .i64 0) 1 8 Try.underlying28 hinf hz0 hz1 hz2 rfl (by decide) (.slice (some ⟨g, 0, none⟩) ys.length dcap) (ys).length (intCells (ys)) rfl hoa ⟨w20.heap.size, 0, none⟩ 1 1 [.int .i64 1] rfl rfl hnew (by simp [Value.oneCell']) (by unfold maxLen; omega) (by omega) (by simp; omega) ?_; intro v6 w6 ho6 hg6 _; rw [← intCells_snoc] at ho6; have D22 := D21.own hoa hg6; obtain ⟨⟨e0', e1', e2', e3', e4'⟩, ef'⟩ := D22.pa.cells; obtain ⟨⟨f0', f1', f2', f3', f4'⟩, ff'⟩ := D22.res.cells)
          obtain ⟨d6, dg6, dcap6, rfl, hI6, hdg6⟩ := ints_owned (zs := (ys) ++ [1]) (by simpa using ho6)
          refine bodyPost_ret (v := .tuple #[.agg #[.int .i64 q, .int .i64 s, .slice a l.length cap, .int .i64 fr, .int .i64 b], .slice d6 ((ys) ++ [1]).length dcap6]) (by simp [results, Try.results6, go_sem, *]) rfl ?_
          exact D22.post (by simp <;> omega) hI6 (fun h => by have := owns_base ho6 dg6 (hdg6 h); omega)
        · have m0' : (m20 == 0) = false := beq_eq_false_iff_ne.2 m0
          by_cases m1 : m20 = 1
          · subst m1
            clear m0 m0'
            have hnew := two_new w20 (.int .i64 (-9223372036854775808)) (.int .i64 9223372036854775807) 3
            have hoa := owns_below ho20 ((Below.refl _ _).alloc (Nat.le_refl _) (.cells #[.int .i64 (-9223372036854775808), .int .i64 9223372036854775807] 3))
            have D21 := D20.alloc (.cells #[.int .i64 (-9223372036854775808), .int .i64 9223372036854775807] 3)
            go_wp2_with (at_builtin; refine wpList_append_own _ rfl (.tmp 54) (.tmp 55) 28 rfl w1.heap.size 3 i0 (.int .i64 0) 1 8 Try.underlying28 hinf hz0 hz1 hz2 rfl (by decide) (.slice (some ⟨g, 0, none⟩) ys.length dcap) (ys).length (intCells (ys)) rfl hoa ⟨w20.heap.size, 0, none⟩ 2 2 [.int .i64 (-9223372036854775808), .int .i64 9223372036854775807] rfl rfl hnew (by simp [Value.oneCell']) (by unfold maxLen; omega) (by omega) (by simp; omega) ?_; intro v6 w6 ho6 hg6 _; have D22 := D21.own hoa hg6; obtain ⟨⟨e0', e1', e2', e3', e4'⟩, ef'⟩ := D22.pa.cells; obtain ⟨⟨f0', f1', f2', f3', f4'⟩, ff'⟩ := D22.res.cells)
            obtain ⟨d6, dg6, dcap6, rfl, hI6, hdg6⟩ := ints_owned (zs := (ys) ++ [-9223372036854775808, 9223372036854775807]) (by simpa [intCells] using ho6)
            refine bodyPost_ret (v := .tuple #[.agg #[.int .i64 q, .int .i64 s, .slice a l.length cap, .int .i64 fr, .int .i64 b], .slice d6 ((ys) ++ [-9223372036854775808, 9223372036854775807]).length dcap6]) (by simp [results, Try.results6, go_sem, *]) rfl ?_
            exact D22.post (by simp <;> omega) hI6 (fun h => by have := owns_base ho6 dg6 (hdg6 h); omega)
          · have m1' : (m20 == 1) = false := beq_eq_false_iff_ne.2 m1
            obtain ⟨d6, dg6, dcap6, hv6, hI6, hdg6⟩ := ints_owned ho20
            cases hv6
            go_wp2
            refine bodyPost_ret (v := .tuple #[.agg #[.int .i64 q, .int .i64 s, .slice a l.length cap, .int .i64 fr, .int .i64 b], .slice (some ⟨g, 0, none⟩) ys.length dcap]) (by simp [results, Try.results6, go_sem, *]) rfl ?_
            exact D20.post (by first | omega | simp) hI6 (fun h => by have := owns_base ho20 dg6 (hdg6 h); omega)
      · have hm' : (m == 0) = false := beq_eq_false_iff_ne.2 hm
        go_wp2_with fail
        refine (pick_any (w.heap.size + 1) R (p3 + 1) 16 _ D5.rd.rd (by omega)).mono ?_
        rintro e w20 ⟨rfl, r20, g20, s20⟩
        have D20 := D5.more r20 g20
        have ho20 := owns_grown ho5 g20 (fun k e => by cases e; have := D5.base; omega)
        clear r20 g20 s20 ho5 D5
        generalize pickV R (p3 + 1) 16 = m20
        obtain ⟨⟨e0, e1, e2, e3, e4⟩, ef⟩ := D20.pa.cells
        obtain ⟨⟨f0, f1, f2, f3, f4⟩, ff⟩ := D20.res.cells
        have hXw : X ≠ w.heap.size := by have := D20.ge; have := D20.base; omega
        have hb20 := D20.base
        have hs20 := D20.rd.size
        by_cases m0 : m20 = 0
        · subst m0
          have hnew := one_new w20 (.int .i64 1) 3
          have hoa := owns_below ho20 ((Below.refl _ _).alloc (Nat.le_refl _) (.cells #[.int .i64 1] 3))
          have D21 := D20.alloc (.cells #[.int .i64 1] 3)
          go_wp2_with (at_builtin; refine wpList_append_own _ rfl (.tmp 49) (.tmp 50) 28 rfl w1.heap.size 3 i0 (.int .i64 0) 1 8 Try.underlying28 hinf hz0 hz1 hz2 rfl (by decide) (.slice d zs.length dcap) (zs).length (intCells (zs)) rfl hoa ⟨w20.heap.size, 0, none⟩ 1 1 [.int .i64 1] rfl rfl hnew (by simp [Value.oneCell']) (by unfold maxLen; omega) (by omega) (by simp; omega) ?_; intro v6 w6 ho6 hg6 _; rw [← intCells_snoc] at ho6; have D22 := D21.own hoa hg6; obtain ⟨⟨e0', e1', e2', e3', e4'⟩, ef'⟩ := D22.pa.cells; obtain ⟨⟨f0', f1', f2', f3', f4'⟩, ff'⟩ := D22.res.cells)
          obtain ⟨d6, dg6, dcap6, rfl, hI6, hdg6⟩ := ints_owned (zs := (zs) ++ [1]) (by simpa using ho6)
          refine bodyPost_ret (v := .tuple #[.agg #[.int .i64 q, .int .i64 s, .slice a l.length cap, .int .i64 fr, .int .i64 b], .slice d6 ((zs) ++ [1]).length dcap6]) (by simp [results, Try.results6, go_sem, *]) rfl ?_
          exact D22.post (by simp <;> omega) hI6 (fun h => by have := owns_base ho6 dg6 (hdg6 h); omega)
        · have m0' : (m20 == 0) = false := beq_eq_false_iff_ne.2 m0
          by_cases m1 : m20 = 1
          · subst m1
            clear m0 m0'
            have hnew := two_new w20 (.int .i64 (-9223372036854775808)) (.int .i64 9223372036854775807) 3
            have hoa := owns_below ho20 ((Below.refl _ _).alloc (Nat.le_refl _) (.cells #[.int .i64 (-9223372036854775808), .int .i64 9223372036854775807] 3))
            have D21 := D20.alloc (.cells #[.int .i64 (-9223372036854775808), .int .i64 9223372036854775807] 3)
            go_wp2_with (at_builtin; refine wpList_append_own _ rfl (.tmp 54) (.tmp 55) 28 rfl w1.heap.size 3 i0 (.int .i64 0) 1 8 Try.underlying28 hinf hz0 hz1 hz2 rfl (by decide) (.slice d zs.length dcap) (zs).length (intCells (zs)) rfl hoa ⟨w20.heap.size, 0, none⟩ 2 2 [.int .i64 (-9223372036854775808), .int .i64 9223372036854775807] rfl rfl hnew (by simp [Value.oneCell']) (by unfold maxLen; omega) (by omega) (by simp; omega) ?_; intro v6 w6 ho6 hg6 _; have D22 := D21.own hoa hg6; obtain ⟨⟨e0', e1', e2', e3', e4'⟩, ef'⟩ := D22.pa.cells; obtain ⟨⟨f0', f1', f2', f3', f4'⟩, ff'⟩ := D22.res.cells)
            obtain ⟨d6, dg6, dcap6, rfl, hI6, hdg6⟩ := ints_owned (zs := (zs) ++ [-9223372036854775808, 9223372036854775807]) (by simpa [intCells] using ho6)
            refine bodyPost_ret (v := .tuple #[.agg #[.int .i64 q, .int .i64 s, .slice a l.length cap, .int .i64 fr, .int .i64 b], .slice d6 ((zs) ++ [-9223372036854775808, 9223372036854775807]).length dcap6]) (by simp [results, Try.results6, go_sem, *]) rfl ?_
            exact D22.post (by simp <;> omega) hI6 (fun h => by have := owns_base ho6 dg6 (hdg6 h); omega)
          · have m1' : (m20 == 1) = false := beq_eq_false_iff_ne.2 m1
            obtain ⟨d6, dg6, dcap6, hv6, hI6, hdg6⟩ := ints_owned ho20
            cases hv6
            go_wp2
            refine bodyPost_ret (v := .tuple #[.agg #[.int .i64 q, .int .i64 s, .slice a l.length cap, .int .i64 fr, .int .i64 b], .slice d zs.length dcap]) (by simp [results, Try.results6, go_sem, *]) rfl ?_
            exact D20.post (by first | omega | simp) hI6 (fun h => by have := owns_base ho20 dg6 (hdg6 h); omega)
end Go.Proofs.Ytndfacmfjilbkaa

namespace Go.Proofs.Ytndfacmfjilbkaa
open Go.RowKit

/-- As the laws ask it of the k-th step. -/
def okA (q s : Int) (l : List Stp) (zs : List Int) (k : Nat) : Bool :=
  !decide (zs.getD k 0 < (l.getD k .zero).fr) && !decide ((l.getD k .zero).by_ < zs.getD k 0) && !decide (wrap64 (zs.getD (k + 1) 0 - zs.getD k 0) < q) && ((l.getD k .zero).ho || !decide (s < wrap64 (zs.getD (k + 1) 0 - zs.getD k 0)))
def allowTo (q s : Int) (l : List Stp) (zs : List Int) (k : Nat) : Bool := (List.range k).all (okA q s l zs)
def allowB (q s fr b : Int) (l : List Stp) (zs : List Int) : Bool := decide (zs.length = l.length + 1) && allowTo q s l zs l.length && inB (zs.getD l.length 0) fr b
theorem allowTo_succ {q s : Int} {l : List Stp} {zs : List Int} {k : Nat} (h : allowTo q s l zs k = true) : allowTo q s l zs (k + 1) = okA q s l zs k := by
  unfold allowTo at *; rw [all_succ, h]; simp
theorem allowTo_not {q s : Int} {l : List Stp} {zs : List Int} {k n : Nat} (hk : k < n) (h : okA q s l zs k = false) : allowTo q s l zs n = false := all_not hk h

theorem blk7a {w : World} {S : Nat} {c0 c1 c2 c3 c4 c5 c6 : Value} {t : TypeId} (h : w.heap[S]? = some (.cells #[c0, c1, c2, c3, c4, c5, c6] t (0, 0))) :
    (w.cell? ⟨S, 0, none⟩ = some c0 ∧ w.cell? ⟨S, 1, none⟩ = some c1 ∧ w.cell? ⟨S, 2, none⟩ = some c2 ∧ w.cell? ⟨S, 3, none⟩ = some c3 ∧ w.cell? ⟨S, 4, none⟩ = some c4 ∧ w.cell? ⟨S, 5, none⟩ = some c5 ∧ w.cell? ⟨S, 6, none⟩ = some c6) ∧ ∀ j, w.frozen? ⟨S, j, none⟩ = false := by
  refine ⟨⟨?_, ?_, ?_, ?_, ?_, ?_, ?_⟩, fun j => ?_⟩ <;> simp [World.cell?, World.frozen?, h]

set_option maxRecDepth 20000 in
set_option maxHeartbeats 4000000 in
theorem allow_any (q s fr b : Int) (a : Option Addr) (b0 o cap : Nat) (l : List Stp) (c : Option Addr) (cb co ccap : Nat) (zs : List Int) (w : World) (hl : l.length ≤ 1048576) (hm : zs.length ≤ 1048576) (hs : StepsAt w a b0 o l) (hz : IntsAt w c cb co zs) :
    Calls Try.prog 14 #[.agg #[.int .i64 q, .int .i64 s, .slice a l.length cap, .int .i64 fr, .int .i64 b], .slice c zs.length ccap] w fun e w' => e = .returned (.bool (allowB q s fr b l zs)) ∧ Below w.heap.size w w' := by
  have Q0 := PathAt.new w q s fr b (.slice a l.length cap)
  have B0 := (Below.refl w.heap.size w).alloc (Nat.le_refl _) (.cells #[.int .i64 q, .int .i64 s, .slice a l.length cap, .int .i64 fr, .int .i64 b] 27)
  by_cases hlen : zs.length = l.length + 1
  · have hne : ((zs.length : Int) != (l.length : Int) + 1) = false := by simp; omega
    have hzn : zs ≠ [] := by intro e; rw [e] at hlen; simp at hlen
    obtain rfl := hz.here hzn
    have HA : Hid (allowB q s fr b l zs = (allowTo q s l zs l.length && inB (zs.getD l.length 0) fr b)) := by show _ = _; unfold allowB; rw [decide_eq_true hlen]; rfl
    go_enter Try.func14, Try.ntmps14
    go_wp2
    go_loopw [6] (fun s6 wr => ∃ k : Nat, s6 = .int .i64 (k : Int) ∧ k ≤ l.length ∧ Below w.heap.size w wr ∧ PathAt wr w.heap.size q s fr b (.slice a l.length cap) ∧ allowTo q s l zs k = true) (fun s6 _ => l.length - (intOf s6).toNat)
    case atStart => exact ⟨0, rfl, by omega, B0, Q0, rfl⟩
    case round =>
      obtain ⟨k, rfl, hk, B1, Q1, hgood⟩ := hrel
      have HG : Hid (allowTo q s l zs k = true) := hgood
      clear Q0 B0 hgood
      obtain ⟨⟨e0, e1, e2, e3, e4⟩, ef⟩ := Q1.cells
      have hlw := Q1.lt
      by_cases hlt : k < l.length
      · obtain ⟨t, ht⟩ : ∃ t, l[k]? = some t := ⟨_, List.getElem?_eq_getElem hlt⟩
        have hln : l ≠ [] := by intro e; rw [e] at hlt; simp at hlt
        obtain rfl := hs.here hln
        have hs2 := hs.below B1 hs.lt
        obtain ⟨x0, x1, x2, x3, x4, x5, x6⟩ := hs2.seven ht
        have hd : l.getD k .zero = t := by rw [List.getD_eq_getElem?_getD, ht]; rfl
        obtain ⟨z, hzk⟩ : ∃ z, zs[k]? = some z := ⟨_, List.getElem?_eq_getElem (by omega)⟩
        obtain ⟨z', hzk'⟩ : ∃ z, zs[k + 1]? = some z := ⟨_, List.getElem?_eq_getElem (by omega)⟩
        have hzd : zs.getD k 0 = z := by rw [List.getD_eq_getElem?_getD, hzk]; rfl
        have hzd' : zs.getD (k + 1) 0 = z' := by rw [List.getD_eq_getElem?_getD, hzk']; rfl
        have HO : Hid (okA q s l zs k = (!decide (z < t.fr) && !decide (t.by_ < z) && !decide (wrap64 (z' - z) < q) && (t.ho || !decide (s < wrap64 (z' - z))))) := by show _ = _; unfold okA; rw [hd, hzd, hzd']
        have hcl := hz.lt hzn
        have y0 := (B1.cell (p := ⟨cb, co + k, none⟩) hcl).trans (hz.cell k z hzk)
        have y1 := (B1.cell (p := ⟨cb, co + (k + 1), none⟩) hcl).trans (hz.cell (k + 1) z' hzk')
        have k0 : (0 : Int) ≤ (k : Int) := by omega
        have k1 : (k : Int) < (l.length : Int) := by omega
        have k2 : (k : Int) < (zs.length : Int) := by omega
        have k3 : (k : Int) + 1 < (zs.length : Int) := by omega
        have hw1 := B1.size
        clear hd hzd hzd' hzk hzk' ht hs2
        generalize hdd : wrap64 (z' - z) = dz at HO
        go_upto_region 8 with (fail)
        have bS := heap_alloc_new wr (.cells #[.int .i64 t.x, .int .i64 t.y, .int .i64 t.lo, .int .i64 t.hi, .int .i64 t.fr, .int .i64 t.by_, .bool t.ho] 65)
        have hal := (Below.refl wr.heap.size wr).alloc (Nat.le_refl _) (.cells #[.int .i64 t.x, .int .i64 t.y, .int .i64 t.lo, .int .i64 t.hi, .int .i64 t.fr, .int .i64 t.by_, .bool t.ho] 65)
        have B2 := B1.trans (hal.mono hw1)
        have Q2 := Q1.keep hal Q1.lt
        have y0' := (hal.cell (p := ⟨cb, co + k, none⟩) (Nat.lt_of_lt_of_le hcl hw1)).trans y0
        have y1' := (hal.cell (p := ⟨cb, co + (k + 1), none⟩) (Nat.lt_of_lt_of_le hcl hw1)).trans y1
        obtain ⟨⟨c0, c1, c2, c3, c4, c5, c6⟩, cf⟩ := blk7a bS
        clear e0 e1 e2 e3 e4 ef x0 x1 x2 x3 x4 x5 x6 y0 y1 bS Q1 B1 hal
        generalize (wr.alloc (.cells #[.int .i64 t.x, .int .i64 t.y, .int .i64 t.lo, .int .i64 t.hi, .int .i64 t.fr, .int .i64 t.by_, .bool t.ho] 65)) = W at *
        obtain ⟨⟨e0, e1, e2, e3, e4⟩, ef⟩ := Q2.cells
        generalize wr.heap.size = S at *
        by_cases h1 : z < t.fr
        · have HF : Hid (okA q s l zs k = false) := by show _ = _; rw [HO.out]; simp [h1]
          go_quiet (fail)
          go_wp2
          go_ret
          exact ⟨by rw [HA.out, allowTo_not hlt HF.out]; rfl, B2.trans ⟨rfl, rfl, rfl, Nat.le_refl _, fun _ _ => rfl⟩⟩
        · by_cases h2 : t.by_ < z
          · have HF : Hid (okA q s l zs k = false) := by show _ = _; rw [HO.out]; simp [h1, h2]
            go_quiet (fail)
            go_wp2
            go_ret
            exact ⟨by rw [HA.out, allowTo_not hlt HF.out]; rfl, B2.trans ⟨rfl, rfl, rfl, Nat.le_refl _, fun _ _ => rfl⟩⟩
          · by_cases h3 : dz < q
            · have HF : Hid (okA q s l zs k = false) := by show _ = _; rw [HO.out]; simp [h1, h2, h3]
              go_quiet (fail)
              go_wp2
              go_ret
              exact ⟨by rw [HA.out, allowTo_not hlt HF.out]; rfl, B2.trans ⟨rfl, rfl, rfl, Nat.le_refl _, fun _ _ => rfl⟩⟩
            · cases ho : t.ho with
              | true =>
                have HF : Hid (okA q s l zs k = true) := by show _ = _; rw [HO.out]; simp [h1, h2, h3, ho]
                rw [ho] at c6
                go_quiet (fail)
                go_wp2
                go_roundw
                case rel => exact ⟨k + 1, by simp, by omega, B2.trans ⟨rfl, rfl, rfl, Nat.le_refl _, fun _ _ => rfl⟩, ⟨Q2.it⟩, by rw [allowTo_succ HG.out]; exact HF.out⟩
                case measure => simp [intOf]; omega
              | false =>
                rw [ho] at c6
                by_cases h4 : s < dz
                · have HF : Hid (okA q s l zs k = false) := by show _ = _; rw [HO.out]; simp [h1, h2, h3, h4, ho]
                  go_quiet (fail)
                  go_wp2
                  go_ret
                  exact ⟨by rw [HA.out, allowTo_not hlt HF.out]; rfl, B2.trans ⟨rfl, rfl, rfl, Nat.le_refl _, fun _ _ => rfl⟩⟩
                · have HF : Hid (okA q s l zs k = true) := by show _ = _; rw [HO.out]; simp [h1, h2, h3, h4, ho]
                  go_quiet (fail)
                  go_wp2
                  go_roundw
                  case rel => exact ⟨k + 1, by simp, by omega, B2.trans ⟨rfl, rfl, rfl, Nat.le_refl _, fun _ _ => rfl⟩, ⟨Q2.it⟩, by rw [allowTo_succ HG.out]; exact HF.out⟩
                  case measure => simp [intOf]; omega
      · obtain rfl : k = l.length := by omega
        obtain ⟨z, hzk⟩ : ∃ z, zs[l.length]? = some z := ⟨_, List.getElem?_eq_getElem (by omega)⟩
        have hzd : zs.getD l.length 0 = z := by rw [List.getD_eq_getElem?_getD, hzk]; rfl
        have hcl := hz.lt hzn
        have y0 := (B1.cell (p := ⟨cb, co + l.length, none⟩) hcl).trans (hz.cell l.length z hzk)
        have HB : Hid (allowB q s fr b l zs = (decide (fr ≤ z) && decide (z ≤ b))) := by show _ = _; rw [HA.out, HG.out, hzd]; rfl
        have k2 : (l.length : Int) < (zs.length : Int) := by omega
        have k3 : (l.length : Int) < (l.length : Int) + 1 := by omega
        have k0 : (0 : Int) ≤ (l.length : Int) := by omega
        clear hzd hzk
        by_cases h1 : fr ≤ z
        · go_wp2
          go_quiet (fail)
          go_wp2
          go_ret
          exact ⟨by rw [HB.out, decide_eq_true h1]; rfl, B1.trans ⟨rfl, rfl, rfl, Nat.le_refl _, fun _ _ => rfl⟩⟩
        · have h1' : decide (fr ≤ z) = false := decide_eq_false h1
          have h1'' : z < fr := by omega
          go_wp2
          go_quiet (fail)
          go_wp2
          go_ret
          exact ⟨by rw [HB.out, decide_eq_false (by omega)]; rfl, B1.trans ⟨rfl, rfl, rfl, Nat.le_refl _, fun _ _ => rfl⟩⟩
  · have hne : ((zs.length : Int) != (l.length : Int) + 1) = true := by simp; omega
    have HA : Hid (allowB q s fr b l zs = false) := by show _ = _; unfold allowB; rw [decide_eq_false hlen]; rfl
    go_enter Try.func14, Try.ntmps14
    go_wp2
    go_ret
    exact ⟨by rw [HA.out]; rfl, B0⟩
end Go.Proofs.Ytndfacmfjilbkaa

namespace Go.Proofs.Ytndfacmfjilbkaa
open Go.RowKit

theorem lawB_keeps {q s fr b : Int} {l : List Stp} (hp : pathB q s fr b l = true) (zs : List Int) : lawB q s fr b l zs = true ↔ zs.length = l.length + 1 ∧ Keeps q s fr b l (fun k => zs.getD k 0) 0 l.length := by
  unfold lawB
  rw [hp, ← ticks_parts]
  simp only [Bool.true_and, Bool.and_eq_true, decide_eq_true_eq, winTo, stayTo, List.all_eq_true, List.mem_range, winS, stayS, inB_iff]
  constructor
  · rintro ⟨h1, h2, h3⟩
    exact ⟨h1, fun k _ hk => h2 k (by omega), fun k _ hk => h3 k hk⟩
  · rintro ⟨h1, h2, h3⟩
    exact ⟨h1, fun k hk => h2 k (by omega) (by omega), fun k hk => h3 k (by omega) hk⟩

theorem allowB_keeps {q s fr b : Int} {l : List Stp} (hp : pathB q s fr b l = true) (zs : List Int) : allowB q s fr b l zs = true ↔ zs.length = l.length + 1 ∧ Keeps q s fr b l (fun k => zs.getD k 0) 0 l.length := by
  unfold allowB allowTo
  simp only [Bool.and_eq_true, decide_eq_true_eq, List.all_eq_true, List.mem_range, inB_iff, okA, Bool.not_eq_true', decide_eq_false_iff_not, Bool.or_eq_true, Int.not_lt]
  have lo : ∀ k, k < l.length → lowB fr l k = (l.getD k .zero).fr ∧ highB b l k = (l.getD k .zero).by_ := fun k hk => by unfold lowB highB; rw [if_pos hk, if_pos hk]; exact ⟨rfl, rfl⟩
  have en : lowB fr l l.length = fr ∧ highB b l l.length = b := by unfold lowB highB; rw [if_neg (by omega), if_neg (by omega)]; exact ⟨rfl, rfl⟩
  constructor
  · rintro ⟨⟨h1, h2⟩, h3⟩
    have win : ∀ k, k ≤ l.length → lowB fr l k ≤ zs.getD k 0 ∧ zs.getD k 0 ≤ highB b l k := fun k hk => by
      rcases Nat.lt_or_ge k l.length with h | h
      · have := h2 k h
        rw [(lo k h).1, (lo k h).2]
        exact ⟨this.1.1.1, this.1.1.2⟩
      · obtain rfl : k = l.length := by omega
        rw [en.1, en.2]
        exact h3
    refine ⟨h1, fun k _ hk => win k hk, fun k _ hk => ?_⟩
    have w1 := win k (by omega)
    have w2 := win (k + 1) (by omega)
    have r1 := bounds_ok hp k
    have r2 := bounds_ok hp (k + 1)
    have hw : wrap64 (zs.getD (k + 1) 0 - zs.getD k 0) = zs.getD (k + 1) 0 - zs.getD k 0 := by unfold wrap64; omega
    have h4 := h2 k hk
    rw [hw] at h4
    refine ⟨h4.1.2, ?_⟩
    unfold mostB
    rcases h4.2 with h | h
    · rw [h]; show zs.getD (k + 1) 0 - zs.getD k 0 ≤ (10000 : Int); omega
    · cases (l.getD k .zero).ho with
      | true => show zs.getD (k + 1) 0 - zs.getD k 0 ≤ (10000 : Int); omega
      | false => exact h
  · rintro ⟨h1, h2, h3⟩
    refine ⟨⟨h1, fun k hk => ?_⟩, ?_⟩
    · have w1 : lowB fr l k ≤ zs.getD k 0 ∧ zs.getD k 0 ≤ highB b l k := h2 k (by omega) (by omega)
      have w2 : lowB fr l (k + 1) ≤ zs.getD (k + 1) 0 ∧ zs.getD (k + 1) 0 ≤ highB b l (k + 1) := h2 (k + 1) (by omega) (by omega)
      have r1 := bounds_ok hp k
      have r2 := bounds_ok hp (k + 1)
      have w3 := h3 k (by omega) hk
      have hw : wrap64 (zs.getD (k + 1) 0 - zs.getD k 0) = zs.getD (k + 1) 0 - zs.getD k 0 := by unfold wrap64; omega
      rw [hw]
      rw [(lo k hk).1, (lo k hk).2] at w1
      refine ⟨⟨⟨w1.1, w1.2⟩, w3.1⟩, ?_⟩
      have h4 := w3.2
      unfold mostB at h4
      cases ho : (l.getD k .zero).ho with
      | true => exact .inl rfl
      | false => rw [ho] at h4; exact .inr h4
    · have := h2 l.length (by omega) (by omega)
      rw [en.1, en.2] at this
      exact this
theorem allow_law {q s fr b : Int} {l : List Stp} (hp : pathB q s fr b l = true) (zs : List Int) : allowB q s fr b l zs = lawB q s fr b l zs := by
  rw [Bool.eq_iff_iff, allowB_keeps hp, lawB_keeps hp]

theorem flyL_at {q s fr b : Int} {l : List Stp} (h : flyB q s fr b l = true) : pathB q s fr b l = true ∧ fwdTo q s fr b l (l.length + 1) = true ∧ flyL q s fr b l = (List.range (l.length + 1)).map fun k => spanAt q s fr b l l.length k := by
  unfold flyB at h
  rw [Bool.and_eq_true] at h
  refine ⟨h.1, by rw [← span_fwd h.1]; exact h.2, ?_⟩
  unfold flyL
  rw [if_pos h.1]
  unfold spansL
  rw [if_pos h.2]
  rfl

/-- The earliest of all ticks make a flight. -/
theorem first_keeps {q s fr b : Int} {l : List Stp} (hm : ∀ k, q ≤ mostB s l k) {n : Nat} (hf : fwdTo q s fr b l (n + 1) = true) : Keeps q s fr b l (fun k => (spanAt q s fr b l n k).1) 0 n := by
  refine ⟨fun k _ hk => span_win hm hf hk ⟨Int.le_refl _, span_some hm hf⟩, fun k _ hk => ?_⟩
  obtain ⟨u, hu, hu1, hu2⟩ := span_next hm hf hk (t := (spanAt q s fr b l n k).1) ⟨Int.le_refl _, span_some hm hf⟩
  obtain ⟨z, hz, hzk⟩ := (span_iff hm hf (show k + 1 ≤ n by omega) (spanAt q s fr b l n (k + 1)).1).1 ⟨Int.le_refl _, span_some hm hf⟩
  have h1 := (span_iff hm hf (show k ≤ n by omega) (z k)).2 ⟨z, hz, rfl⟩
  have h2 := hz.2 k (by omega) hk
  rw [hzk] at h2
  have h3 := hu.1
  have h4 := h1.1
  constructor
  · show q ≤ (spanAt q s fr b l n (k + 1)).1 - (spanAt q s fr b l n k).1
    omega
  · show (spanAt q s fr b l n (k + 1)).1 - (spanAt q s fr b l n k).1 ≤ _
    omega
/-- The latest, too. -/
theorem last_keeps {q s fr b : Int} {l : List Stp} (hm : ∀ k, q ≤ mostB s l k) {n : Nat} (hf : fwdTo q s fr b l (n + 1) = true) : Keeps q s fr b l (fun k => (spanAt q s fr b l n k).2) 0 n := by
  refine ⟨fun k _ hk => span_win hm hf hk ⟨span_some hm hf, Int.le_refl _⟩, fun k _ hk => ?_⟩
  obtain ⟨u, hu, hu1, hu2⟩ := span_next hm hf hk (t := (spanAt q s fr b l n k).2) ⟨span_some hm hf, Int.le_refl _⟩
  obtain ⟨z, hz, hzk⟩ := (span_iff hm hf (show k + 1 ≤ n by omega) (spanAt q s fr b l n (k + 1)).2).1 ⟨span_some hm hf, Int.le_refl _⟩
  have h1 := (span_iff hm hf (show k ≤ n by omega) (z k)).2 ⟨z, hz, rfl⟩
  have h2 := hz.2 k (by omega) hk
  rw [hzk] at h2
  have h3 := hu.2
  have h4 := h1.2
  constructor
  · show q ≤ (spanAt q s fr b l n (k + 1)).2 - (spanAt q s fr b l n k).2
    omega
  · show (spanAt q s fr b l n (k + 1)).2 - (spanAt q s fr b l n k).2 ≤ _
    omega

theorem keeps_congr {q s fr b : Int} {l : List Stp} {z z' : Nat → Int} {n : Nat} (h : Keeps q s fr b l z 0 n) (he : ∀ k, k ≤ n → z' k = z k) : Keeps q s fr b l z' 0 n :=
  ⟨fun k h1 h2 => by rw [he k h2]; exact h.1 k h1 h2, fun k h1 h2 => by rw [he k (by omega), he (k + 1) (by omega)]; exact h.2 k h1 h2⟩
theorem map_at {q s fr b : Int} {l : List Stp} (h : flyB q s fr b l = true) {k : Nat} (hk : k ≤ l.length) : (flyL q s fr b l)[k]? = some (spanAt q s fr b l l.length k) := by
  rw [(flyL_at h).2.2]
  simp [show k < l.length + 1 by omega]
theorem map_len {q s fr b : Int} {l : List Stp} (h : flyB q s fr b l = true) : (flyL q s fr b l).length = l.length + 1 := by
  rw [(flyL_at h).2.2]
  simp
theorem first_allow {q s fr b : Int} {l : List Stp} (h : flyB q s fr b l = true) : allowB q s fr b l ((flyL q s fr b l).map (·.1)) = true := by
  obtain ⟨hp, hf, _⟩ := flyL_at h
  rw [allowB_keeps hp]
  refine ⟨by rw [List.length_map, map_len h], keeps_congr (first_keeps (most_quick hp) hf) (fun k hk => ?_)⟩
  rw [List.getD_eq_getElem?_getD, List.getElem?_map, map_at h hk]
  rfl
theorem last_allow {q s fr b : Int} {l : List Stp} (h : flyB q s fr b l = true) : allowB q s fr b l ((flyL q s fr b l).map (·.2)) = true := by
  obtain ⟨hp, hf, _⟩ := flyL_at h
  rw [allowB_keeps hp]
  refine ⟨by rw [List.length_map, map_len h], keeps_congr (last_keeps (most_quick hp) hf) (fun k hk => ?_)⟩
  rw [List.getD_eq_getElem?_getD, List.getElem?_map, map_at h hk]
  rfl
/-- Each tick of a flight that keeps to the path lies between them. -/
theorem between {q s fr b : Int} {l : List Stp} (h : flyB q s fr b l = true) {zs : List Int} (ha : allowB q s fr b l zs = true) {k : Nat} (hk : k ≤ l.length) : (spanAt q s fr b l l.length k).1 ≤ zs.getD k 0 ∧ zs.getD k 0 ≤ (spanAt q s fr b l l.length k).2 := by
  obtain ⟨hp, hf, _⟩ := flyL_at h
  exact (span_iff (most_quick hp) hf hk _).2 ⟨_, ((allowB_keeps hp zs).1 ha).2, rfl⟩
/-- Without a flight none keeps to it. -/
theorem no_flight {q s fr b : Int} {l : List Stp} (h : flyB q s fr b l = false) (zs : List Int) : lawB q s fr b l zs = false := by
  cases e : lawB q s fr b l zs with
  | false => rfl
  | true =>
    exfalso
    have hp : pathB q s fr b l = true := by unfold lawB at e; simp only [Bool.and_eq_true] at e; exact e.1.1
    have hk := ((lawB_keeps hp zs).1 e).2
    have hf := (fly_iff (most_quick hp) l.length).2 ⟨_, hk⟩
    unfold flyB at h
    rw [hp, span_fwd hp, hf] at h
    cases h
theorem no_list {q s fr b : Int} {l : List Stp} (h : flyB q s fr b l = false) : flyL q s fr b l = [] := by
  unfold flyB at h
  unfold flyL
  split
  · rename_i hp
    rw [hp, Bool.true_and] at h
    unfold spansL
    rw [h]
    rfl
  · rfl
end Go.Proofs.Ytndfacmfjilbkaa

namespace Go.Proofs.Ytndfacmfjilbkaa
open Go.RowKit

set_option maxRecDepth 20000 in
set_option maxHeartbeats 1000000 in
/-- Two lists of the same spans. -/
theorem wfSpans_same (v v' : Value) (base base' n : Nat) (xs : List (Int × Int)) (w : World) (hn : xs.length = n) (hl : n ≤ 1048576) (ho : w.ownsRow base 38 2 v n (spanCells xs)) (ho' : w.ownsRow base' 38 2 v' n (spanCells xs)) :
    Calls Try.prog 9 #[v, v'] w fun e w' => e = .returned (.bool true) ∧ Below w.heap.size w w' := by
  rcases Nat.eq_zero_or_pos n with h0 | h0
  · have hv : ∃ a c, v = .slice a 0 c := by
      rcases ho.2 with ⟨rfl, _⟩ | ⟨g, c, _, rfl, _⟩
      · exact ⟨_, _, rfl⟩
      · exact ⟨_, _, by rw [h0]⟩
    have hv' : ∃ a c, v' = .slice a 0 c := by
      rcases ho'.2 with ⟨rfl, _⟩ | ⟨g, c, _, rfl, _⟩
      · exact ⟨_, _, rfl⟩
      · exact ⟨_, _, by rw [h0]⟩
    obtain ⟨a, c, rfl⟩ := hv
    obtain ⟨a', c', rfl⟩ := hv'
    clear ho ho'
    go_enter Try.func9, Try.ntmps9
    go_wp2
    go_loopw [5] (fun s5 wr => s5 = .int .i64 0 ∧ Below w.heap.size w wr) (fun _ _ => 0)
    case atStart => exact ⟨rfl, Below.refl _ _⟩
    case round =>
      obtain ⟨rfl, hb⟩ := hrel
      go_wp2
      go_ret
      exact ⟨rfl, hb⟩
  · obtain ⟨g, c, rfl, hg1, hg2⟩ := owns_some ho h0
    obtain ⟨g', c', rfl, hg1', hg2'⟩ := owns_some ho' h0
    have hne : ((n : Int) != (n : Int)) = false := by simp
    go_enter Try.func9, Try.ntmps9
    go_wp2
    go_loopw [5] (fun s5 wr => ∃ k : Nat, s5 = .int .i64 (k : Int) ∧ k ≤ n ∧ Below w.heap.size w wr) (fun s5 _ => n - (intOf s5).toNat)
    case atStart => exact ⟨0, rfl, by omega, Below.refl _ _⟩
    case round =>
      obtain ⟨k, rfl, hk, hb⟩ := hrel
      by_cases hlt : k < n
      · obtain ⟨⟨x, y⟩, hxy⟩ : ∃ z, xs[k]? = some z := ⟨_, List.getElem?_eq_getElem (by omega)⟩
        obtain ⟨s0, s1⟩ := spanCells_get xs k _ hxy
        have c0 := (hb.cell (p := ⟨g, k * 2, none⟩) hg2).trans ((ho.cellAt (k * 2) (by omega)).trans s0)
        have c1 := (hb.cell (p := ⟨g, k * 2 + 1, none⟩) hg2).trans ((ho.cellAt (k * 2 + 1) (by omega)).trans s1)
        have d0 := (hb.cell (p := ⟨g', k * 2, none⟩) hg2').trans ((ho'.cellAt (k * 2) (by omega)).trans s0)
        have d1 := (hb.cell (p := ⟨g', k * 2 + 1, none⟩) hg2').trans ((ho'.cellAt (k * 2 + 1) (by omega)).trans s1)
        have k0 : (0 : Int) ≤ (k : Int) := by omega
        have k1 : (k : Int) < (n : Int) := by omega
        clear hxy s0 s1
        go_wp2
        go_quiet (fail)
        go_wp2
        go_roundw
        case rel => exact ⟨k + 1, by simp, by omega, hb.trans ⟨rfl, rfl, rfl, Nat.le_refl _, fun _ _ => rfl⟩⟩
        case measure => simp [intOf]; omega
      · obtain rfl : k = n := by omega
        go_wp2
        go_ret
        exact ⟨rfl, hb⟩

end Go.Proofs.Ytndfacmfjilbkaa

namespace Go.Proofs.Ytndfacmfjilbkaa
open Go.RowKit

/-- The method of a step that is a bound. -/
theorem method_step (nm : String) (h : Try.prog.underlying 87 = some (.interface #[(nm, 90)])) (t : Stp) (w : World) : (method 227 65 t.val nm).run Try.prog w = .ok (103, t.val) w := by
  rw [Try.underlying87] at h
  simp only [Option.some.injEq, TypeDesc.interface.injEq, Array.mk.injEq, List.cons.injEq, Prod.mk.injEq, and_true] at h
  subst h
  kernel_rfl
/-- The method of a path's end that is a bound. -/
theorem method_end (nm : String) (h : Try.prog.underlying 87 = some (.interface #[(nm, 90)])) (fr b : Int) (w : World) : (method 227 107 (.agg #[.int .i64 fr, .int .i64 b]) nm).run Try.prog w = .ok (104, .agg #[.int .i64 fr, .int .i64 b]) w := by
  rw [Try.underlying87] at h
  simp only [Option.some.injEq, TypeDesc.interface.injEq, Array.mk.injEq, List.cons.injEq, Prod.mk.injEq, and_true] at h
  subst h
  kernel_rfl
end Go.Proofs.Ytndfacmfjilbkaa

namespace Go.Proofs.Ytndfacmfjilbkaa
open Go.RowKit

set_option maxHeartbeats 2000000 in
theorem windows_any (q s fr b : Int) (a : Option Addr) (b0 o cap : Nat) (l : List Stp) (c : Option Addr) (cb co ccap : Nat) (zs : List Int) (w : World) (hl : l.length ≤ 1048576) (hs : StepsAt w a b0 o l) (hz : IntsAt w c cb co zs)
    (hn : zs.length = l.length + 1) :
    Calls Try.prog 39 #[.agg #[.int .i64 q, .int .i64 s, .slice a l.length cap, .int .i64 fr, .int .i64 b], .slice c zs.length ccap] w fun e w' => e = .returned (.bool (winTo fr b l zs (l.length + 1))) ∧ Below w.heap.size w w' := by
  have hzne : zs ≠ [] := by intro e; subst e; simp at hn
  obtain rfl := hz.here hzne
  have hcb := hz.lt hzne
  have HN : Hid (zs.length = l.length + 1) := hn
  clear hn
  go_enter Try.func39, Try.ntmps39
  go_wp2_with fail
  refine (bounds_any _ _ _ _ _ b0 o _ _ _ hl (hs.alloc _)).mono ?_
  rintro e w1 ⟨v, rfl, hown, hb1⟩
  have hB1 := (BoxP.new w q s fr b (.slice a l.length cap) 27).below hb1
  obtain ⟨g, vcap, hv, hg⟩ : ∃ g vcap, v = .slice (some ⟨g, 0, none⟩) (l.length + 1) vcap ∧ g < w1.heap.size := by
    rcases hown.2 with ⟨_, h⟩ | ⟨g, cap', cur, rfl, _, hh, _⟩
    · omega
    · exact ⟨g, cap', rfl, lt_of_block hh⟩
  subst hv
  have hx : ∀ j, j < l.length + 1 → w1.cell? ⟨g, j, none⟩ = (bndTo l l.length ++ [Value.iface 107 (.agg #[.int .i64 fr, .int .i64 b])])[j]? := fun j hj => hown.cellAt j (by omega)
  have HX : Hid (∀ j, j < l.length + 1 → w1.cell? ⟨g, j, none⟩ = (bndTo l l.length ++ [Value.iface 107 (.agg #[.int .i64 fr, .int .i64 b])])[j]?) := hx
  clear hx hown hb1
  go_wp2
  go_loopw [12] (fun u wr => ∃ k : Nat, k ≤ l.length + 1 ∧ u = .int .i64 k ∧ Below w1.heap.size w1 wr ∧ winTo fr b l zs k = true) (fun u _ => l.length + 1 - (intOf u).toNat)
  case atStart => exact ⟨0, Nat.zero_le _, rfl, Below.refl _ _, rfl⟩
  case round =>
    obtain ⟨k, hk, rfl, hb, hgood⟩ := hrel
    have HG : Hid (winTo fr b l zs k = true) := hgood
    clear hgood
    by_cases hlt : k < l.length + 1
    · have hkz : k < zs.length := by rw [HN.out]; exact hlt
      obtain ⟨z, hzk⟩ : ∃ z, zs[k]? = some z := ⟨zs[k], List.getElem?_eq_getElem hkz⟩
      have HZ : Hid (zs.getD k 0 = z) := by show _ = _; simp [List.getD, hzk]
      have hbw := hB1.old.trans (hb.mono hB1.old.size)
      have d0 := (hz.below hbw hz.lt).cell k z hzk
      clear hzk
      have hcell : wr.cell? ⟨g, k, none⟩ = _ := (hb.cell (p := ⟨g, k, none⟩) hg).trans (HX.out k hlt)
      by_cases hkl : k < l.length
      · have e1 : (bndTo l l.length ++ [Value.iface 107 (.agg #[.int .i64 fr, .int .i64 b])])[k]? = some (stepV (l.getD k .zero)) := by
          rw [List.getElem?_append_left (by rw [bndTo_length]; exact hkl)]
          simp [bndTo, hkl]
        rw [e1] at hcell
        obtain ⟨t, ht⟩ : ∃ t, l.getD k .zero = t := ⟨_, rfl⟩
        rw [ht] at hcell
        clear e1
        have hm := method_step _ Try.underlying87 t
        have HE : Hid (winS fr b l zs k = inB z t.fr t.by_) := by show _ = _; unfold winS lowB highB; rw [HZ.out, if_pos hkl, if_pos hkl, ht]
        clear ht
        by_cases h1 : z < t.fr
        · have G1 : Hid (winTo fr b l zs (l.length + 1) = false) := all_not hlt (by rw [HE.out]; simp [inB]; omega)
          go_wp2_with (go_at_call 103; refine (windowS_any _ _ _ _ _ _ _ _).mono ?_; rintro e w2 ⟨rfl, hb2⟩; have d1 := (hb2.cell (p := ⟨cb, co + k, none⟩) (Nat.lt_of_lt_of_le hcb hbw.size)).trans d0)
          go_ret
          exact ⟨by rw [G1.out]; rfl, hbw.trans (hb2.mono hbw.size)⟩
        · by_cases h2 : t.by_ < z
          · have G1 : Hid (winTo fr b l zs (l.length + 1) = false) := all_not hlt (by rw [HE.out]; simp [inB]; omega)
            go_wp2_with (go_at_call 103; refine (windowS_any _ _ _ _ _ _ _ _).mono ?_; rintro e w2 ⟨rfl, hb2⟩; have d1 := (hb2.cell (p := ⟨cb, co + k, none⟩) (Nat.lt_of_lt_of_le hcb hbw.size)).trans d0)
            go_ret
            exact ⟨by rw [G1.out]; rfl, hbw.trans (hb2.mono hbw.size)⟩
          · have G1 : Hid (winTo fr b l zs (k + 1) = true) := by
              show _ = _; have := HG.out; unfold winTo at *; rw [all_succ, this, HE.out]; simp [inB]; omega
            go_wp2_with (go_at_call 103; refine (windowS_any _ _ _ _ _ _ _ _).mono ?_; rintro e w2 ⟨rfl, hb2⟩; have d1 := (hb2.cell (p := ⟨cb, co + k, none⟩) (Nat.lt_of_lt_of_le hcb hbw.size)).trans d0)
            go_roundw
            case rel => exact ⟨k + 1, by omega, by go_num, hb.trans (hb2.mono hb.size), G1.out⟩
            case measure => simp [intOf]; omega
      · have e1 : (bndTo l l.length ++ [Value.iface 107 (.agg #[.int .i64 fr, .int .i64 b])])[k]? = some (Value.iface 107 (.agg #[.int .i64 fr, .int .i64 b])) := by
          rw [List.getElem?_append_right (by rw [bndTo_length]; omega), bndTo_length, show k - l.length = 0 by omega]
          rfl
        rw [e1] at hcell
        clear e1
        have hm := method_end _ Try.underlying87 fr b
        have HE : Hid (winS fr b l zs k = inB z fr b) := by show _ = _; unfold winS lowB highB; rw [HZ.out, if_neg hkl, if_neg hkl]
        by_cases h1 : z < fr
        · have G1 : Hid (winTo fr b l zs (l.length + 1) = false) := all_not hlt (by rw [HE.out]; simp [inB]; omega)
          go_wp2_with (go_at_call 104; refine (windowE_any _ _ _).mono ?_; rintro e w2 ⟨rfl, hb2⟩; have d1 := (hb2.cell (p := ⟨cb, co + k, none⟩) (Nat.lt_of_lt_of_le hcb hbw.size)).trans d0)
          go_ret
          exact ⟨by rw [G1.out]; rfl, hbw.trans (hb2.mono hbw.size)⟩
        · by_cases h2 : b < z
          · have G1 : Hid (winTo fr b l zs (l.length + 1) = false) := all_not hlt (by rw [HE.out]; simp [inB]; omega)
            go_wp2_with (go_at_call 104; refine (windowE_any _ _ _).mono ?_; rintro e w2 ⟨rfl, hb2⟩; have d1 := (hb2.cell (p := ⟨cb, co + k, none⟩) (Nat.lt_of_lt_of_le hcb hbw.size)).trans d0)
            go_ret
            exact ⟨by rw [G1.out]; rfl, hbw.trans (hb2.mono hbw.size)⟩
          · have G1 : Hid (winTo fr b l zs (k + 1) = true) := by
              show _ = _; have := HG.out; unfold winTo at *; rw [all_succ, this, HE.out]; simp [inB]; omega
            go_wp2_with (go_at_call 104; refine (windowE_any _ _ _).mono ?_; rintro e w2 ⟨rfl, hb2⟩; have d1 := (hb2.cell (p := ⟨cb, co + k, none⟩) (Nat.lt_of_lt_of_le hcb hbw.size)).trans d0)
            go_roundw
            case rel => exact ⟨k + 1, by omega, by go_num, hb.trans (hb2.mono hb.size), G1.out⟩
            case measure => simp [intOf]; omega
    · obtain rfl : k = l.length + 1 := by omega
      go_wp2
      go_ret
      exact ⟨by rw [HG.out]; rfl, hB1.old.trans (hb.mono hB1.old.size)⟩
end Go.Proofs.Ytndfacmfjilbkaa

namespace Go.Proofs.Ytndfacmfjilbkaa
open Go.RowKit

theorem stay_val (x y lo hi fr b q s m : Int) (ho : Bool) (w : World) (hm : (if ho then 10000 else s) = m) :
    Calls Try.prog 66 #[.agg #[.int .i64 x, .int .i64 y, .int .i64 lo, .int .i64 hi, .int .i64 fr, .int .i64 b, .bool ho], .agg #[.int .i64 q, .int .i64 s]] w
      fun e w' => e = .returned (.tuple #[.int .i64 q, .int .i64 m]) ∧ Below w.heap.size w w' := by
  rw [← hm]; exact stay_any x y lo hi fr b q s ho w

set_option maxHeartbeats 2000000 in
theorem stays_any (q s fr b : Int) (a : Option Addr) (b0 o cap : Nat) (l : List Stp) (c : Option Addr) (cb co ccap : Nat) (zs : List Int) (w : World) (hl : l.length ≤ 1048576) (hs : StepsAt w a b0 o l) (hz : IntsAt w c cb co zs)
    (hn : zs.length = l.length + 1) (hr : ∀ i, i < zs.length → 0 ≤ zs.getD i 0 ∧ zs.getD i 0 ≤ 10000) :
    Calls Try.prog 40 #[.agg #[.int .i64 q, .int .i64 s, .slice a l.length cap, .int .i64 fr, .int .i64 b], .slice c zs.length ccap] w fun e w' => e = .returned (.bool (stayTo q s l zs l.length)) ∧ Below w.heap.size w w' := by
  have hzne : zs ≠ [] := by intro e; subst e; simp at hn
  obtain rfl := hz.here hzne
  have hcb := hz.lt hzne
  have HN : Hid (zs.length = l.length + 1) := hn
  have HR : Hid (∀ i, i < zs.length → 0 ≤ zs.getD i 0 ∧ zs.getD i 0 ≤ 10000) := hr
  clear hn hr
  have hB1 := BoxP.new w q s fr b (.slice a l.length cap) 27
  go_enter Try.func40, Try.ntmps40
  go_wp2
  go_loopw [13] (fun u wr => ∃ k : Nat, k ≤ l.length ∧ u = .int .i64 k ∧ BoxP w wr q s fr b (.slice a l.length cap) ∧ stayTo q s l zs k = true) (fun u _ => l.length - (intOf u).toNat)
  case atStart => exact ⟨0, Nat.zero_le _, rfl, hB1, rfl⟩
  case round =>
    clear hB1
    obtain ⟨k, hk, rfl, hB, hgood⟩ := hrel
    have HG : Hid (stayTo q s l zs k = true) := hgood
    clear hgood
    by_cases hlt : k < l.length
    · have hk1 : k + 1 < zs.length := by rw [HN.out]; omega
      obtain ⟨y, hyk⟩ : ∃ y, zs[k]? = some y := ⟨zs[k]'(by omega), List.getElem?_eq_getElem (by omega)⟩
      obtain ⟨z, hzk⟩ : ∃ z, zs[k + 1]? = some z := ⟨zs[k + 1], List.getElem?_eq_getElem hk1⟩
      have HY : Hid (zs.getD k 0 = y) := by show _ = _; simp [List.getD, hyk]
      have HZ : Hid (zs.getD (k + 1) 0 = z) := by show _ = _; simp [List.getD, hzk]
      have hyr := HR.out k (by omega)
      have hzr := HR.out (k + 1) hk1
      rw [HY.out] at hyr
      rw [HZ.out] at hzr
      obtain ⟨t, htk⟩ : ∃ t, l[k]? = some t := ⟨l[k], List.getElem?_eq_getElem hlt⟩
      have hne : l ≠ [] := by intro e; subst e; simp at hlt
      obtain rfl := hs.here hne
      obtain ⟨d0, d1, d2, d3, d4, d5, d6⟩ := (hs.below hB.old hs.lt).seven htk
      have g0 := (hz.below hB.old hz.lt).cell k y hyk
      have g1 := (hz.below hB.old hz.lt).cell (k + 1) z hzk
      have HE : Hid (stayS q s l zs k = inB (z - y) q (if t.ho then 10000 else s)) := by
        show _ = _; unfold stayS mostB; rw [HY.out, HZ.out]; simp [List.getD, htk]
      clear hyk hzk htk
      have p0 := hB.p0
      have p1 := hB.p1
      have hcw : cb < wr.heap.size := Nat.lt_of_lt_of_le hcb hB.old.size
      have hpw := hB.lt
      obtain ⟨m, hm⟩ : ∃ m : Int, (if t.ho then 10000 else s) = m := ⟨_, rfl⟩
      rw [hm] at HE
      have HM : Hid ((if t.ho then 10000 else s) = m) := hm
      clear hm
      have k0 : (0 : Int) ≤ (k : Int) := by omega
      have k1 : (k : Int) + 1 < (zs.length : Int) := by omega
      go_wp2_with fail
      refine (stay_val _ _ _ _ _ _ _ _ m _ _ HM.out).mono ?_
      rintro e w2 ⟨rfl, hb2⟩
      have hb12 : Below wr.heap.size wr w2 := ((Below.refl wr.heap.size wr).alloc (Nat.le_refl _) _).trans (hb2.mono (by simp))
      have hB2 := hB.below hb12
      have f0 := (hb12.cell (p := ⟨cb, co + k, none⟩) hcw).trans g0
      have f1 := (hb12.cell (p := ⟨cb, co + (k + 1), none⟩) hcw).trans g1
      have qn := Cls.any w2
      have q0 := Cls.cell (Nat.lt_of_lt_of_le hcw hb12.size)
      clear hb2 p0 p1 d0 d1 d2 d3 d4 d5 d6 g0 g1
      go_wp2
      refine wp_region_cls (by kernel_rfl) (by kernel_rfl) ?_
      repeat (go_big_quiet_step (fail))
      refine wpQuiet_nil ?_
      rintro _ ⟨u, rfl⟩
      by_cases h1 : z - y < q
      · have G1 : Hid (stayTo q s l zs l.length = false) := all_not hlt (by rw [HE.out]; simp [inB]; omega)
        go_wp2
        go_ret
        exact ⟨by rw [G1.out]; rfl, (hB2.below u.same).old⟩
      · by_cases h2 : m < z - y
        · have G1 : Hid (stayTo q s l zs l.length = false) := all_not hlt (by rw [HE.out]; simp [inB]; omega)
          go_wp2
          go_ret
          exact ⟨by rw [G1.out]; rfl, (hB2.below u.same).old⟩
        · have G1 : Hid (stayTo q s l zs (k + 1) = true) := by
            show _ = _; have := HG.out; unfold stayTo at *; rw [all_succ, this, HE.out]; simp [inB]; omega
          go_wp2
          go_roundw
          case rel => exact ⟨k + 1, by omega, by go_num, hB2.below u.same, G1.out⟩
          case measure => simp [intOf]; omega
    · obtain rfl : k = l.length := by omega
      go_wp2
      go_ret
      exact ⟨by rw [HG.out]; rfl, hB.old⟩

set_option maxHeartbeats 2000000 in
theorem lawful_any (q s fr b : Int) (a : Option Addr) (b0 o cap : Nat) (l : List Stp) (c : Option Addr) (cb co ccap : Nat) (zs : List Int) (w : World) (hl : l.length ≤ 1048576) (_hm : zs.length ≤ 1048576) (hs : StepsAt w a b0 o l) (hz : IntsAt w c cb co zs) (hF : FollowSaid) :
    Calls Try.prog 10 #[.agg #[.int .i64 q, .int .i64 s, .slice a l.length cap, .int .i64 fr, .int .i64 b], .slice c zs.length ccap] w fun e w' => e = .returned (.bool (lawB q s fr b l zs)) ∧ Below w.heap.size w w' := by
  cases hp : pathB q s fr b l with
  | false =>
    have G1 : Hid (lawB q s fr b l zs = false) := by show _ = _; unfold lawB; rw [hp]; rfl
    go_enter Try.func10, Try.ntmps10
    go_wp2_with fail
    refine (pathOk_any hF _ _ _ _ _ b0 o _ _ _ hl (hs.alloc _)).mono ?_
    rintro e w1 ⟨rfl, hb1⟩
    have hB1 := (BoxP.new w q s fr b (.slice a l.length cap) 27).below hb1
    go_wp2
    go_ret
    exact ⟨by rw [G1.out]; rfl, hB1.old⟩
  | true =>
  by_cases hn : zs.length = l.length + 1
  · have heq : ((zs.length : Int) == (l.length : Int) + 1) = true := by simp; omega
    have HN : Hid (zs.length = l.length + 1) := hn
    have HP : Hid (lawB q s fr b l zs = (winTo fr b l zs (l.length + 1) && stayTo q s l zs l.length)) := by
      show _ = _; unfold lawB; rw [hp, ticks_parts, decide_eq_true hn]; rfl
    clear hn
    cases hw : winTo fr b l zs (l.length + 1) with
    | false =>
      have G1 : Hid (lawB q s fr b l zs = false) := by show _ = _; rw [HP.out, hw]; rfl
      go_enter Try.func10, Try.ntmps10
      go_wp2_with fail
      refine (pathOk_any hF _ _ _ _ _ b0 o _ _ _ hl (hs.alloc _)).mono ?_
      rintro e w1 ⟨rfl, hb1⟩
      have hB1 := (BoxP.new w q s fr b (.slice a l.length cap) 27).below hb1
      have p0 := hB1.p0
      have p1 := hB1.p1
      have p2 := hB1.p2
      have p3 := hB1.p3
      have p4 := hB1.p4
      go_wp2_with fail
      refine (windows_any _ _ _ _ _ b0 o _ _ _ cb co _ _ _ hl (hs.below hB1.old hs.lt) (hz.below hB1.old hz.lt) HN.out).mono ?_
      rintro e w2 ⟨rfl, hb2⟩
      go_wp2
      go_ret
      exact ⟨by rw [G1.out]; rfl, (hB1.below hb2).old⟩
    | true =>
      have G1 : Hid (lawB q s fr b l zs = stayTo q s l zs l.length) := by show _ = _; rw [HP.out, hw]; rfl
      have HR : Hid (∀ i, i < zs.length → 0 ≤ zs.getD i 0 ∧ zs.getD i 0 ≤ 10000) := by
        intro i hi
        have h1 : winS fr b l zs i = true := by
          have := hw; simp only [winTo, List.all_eq_true, List.mem_range] at this; exact this i (by have := HN.out; omega)
        exact win_range hp h1
      go_enter Try.func10, Try.ntmps10
      go_wp2_with fail
      refine (pathOk_any hF _ _ _ _ _ b0 o _ _ _ hl (hs.alloc _)).mono ?_
      rintro e w1 ⟨rfl, hb1⟩
      have hB1 := (BoxP.new w q s fr b (.slice a l.length cap) 27).below hb1
      have p0 := hB1.p0
      have p1 := hB1.p1
      have p2 := hB1.p2
      have p3 := hB1.p3
      have p4 := hB1.p4
      go_wp2_with fail
      refine (windows_any _ _ _ _ _ b0 o _ _ _ cb co _ _ _ hl (hs.below hB1.old hs.lt) (hz.below hB1.old hz.lt) HN.out).mono ?_
      rintro e w2 ⟨rfl, hb2⟩
      have hB2 := hB1.below hb2
      clear p0 p1 p2 p3 p4
      have p0 := hB2.p0
      have p1 := hB2.p1
      have p2 := hB2.p2
      have p3 := hB2.p3
      have p4 := hB2.p4
      go_wp2_with fail
      refine (stays_any _ _ _ _ _ b0 o _ _ _ cb co _ _ _ hl (hs.below hB2.old hs.lt) (hz.below hB2.old hz.lt) HN.out HR.out).mono ?_
      rintro e w3 ⟨rfl, hb3⟩
      go_wp2
      go_ret
      exact ⟨by rw [G1.out]; rfl, (hB2.below hb3).old⟩
  · have hneq : ((zs.length : Int) == (l.length : Int) + 1) = false := by simp; omega
    have G1 : Hid (lawB q s fr b l zs = false) := by show _ = _; unfold lawB; rw [hp, decide_eq_false hn]; rfl
    go_enter Try.func10, Try.ntmps10
    go_wp2_with fail
    refine (pathOk_any hF _ _ _ _ _ b0 o _ _ _ hl (hs.alloc _)).mono ?_
    rintro e w1 ⟨rfl, hb1⟩
    have hB1 := (BoxP.new w q s fr b (.slice a l.length cap) 27).below hb1
    have p2 := hB1.p2
    go_wp2
    go_ret
    exact ⟨by rw [G1.out]; rfl, hB1.old⟩
end Go.Proofs.Ytndfacmfjilbkaa

namespace Go.Proofs.Ytndfacmfjilbkaa
open Go.RowKit

/-- What lies while a law looks at a path and a flight. -/
structure LwD (w wr : World) (X : Nat) (q s fr b : Int) (a : Option Addr) (b0 o cap : Nat) (l : List Stp) (c : Option Addr) (db do_ : Nat) (zs : List Int) : Prop where
  old : Below w.heap.size w wr
  pa : PathAt wr X q s fr b (.slice a l.length cap)
  st : StepsAt wr a b0 o l
  it : IntsAt wr c db do_ zs
theorem LwD.below {w wr w' : World} {X : Nat} {q s fr b : Int} {a : Option Addr} {b0 o cap : Nat} {l : List Stp} {c : Option Addr} {db do_ : Nat} {zs : List Int} (h : LwD w wr X q s fr b a b0 o cap l c db do_ zs) (hb : Below wr.heap.size wr w') : LwD w w' X q s fr b a b0 o cap l c db do_ zs :=
  ⟨h.old.trans (hb.mono h.old.size), h.pa.keep hb h.pa.lt, h.st.below hb h.st.lt, h.it.below hb h.it.lt⟩

theorem p2_big (a0 : Option Addr) (n ccap : Nat) (w : World) (hn : n ≤ maxLen) (hb : 1048576 < n) : Calls Try.prog 3 #[.slice a0 n ccap] w fun e w' => e = .returned (.bool true) ∧ Below w.heap.size w w' := by
  have h1 : (1048576 : Int) < (n : Int) := by omega
  unfold maxLen at hn
  have h2 : (n : Int) ≤ 9223372036854775807 := by omega
  go_enter Try.func3, Try.ntmps3
  go_wp2
  go_ret
  exact ⟨rfl, Below.refl _ _⟩

set_option maxRecDepth 20000 in
set_option maxHeartbeats 4000000 in
theorem p2_any (hI : SpansSaid) (hF : FollowSaid) (a0 : Option Addr) (cb co ccap : Nat) (zs0 : List Int) (w : World) (hz : BytesAt w a0 cb co zs0) (hl : zs0.length ≤ 1048576) (hc : zs0.length ≤ ccap) :
    Calls Try.prog 3 #[.slice a0 zs0.length ccap] w fun e w' => e = .returned (.bool true) ∧ Below w.heap.size w w' := by
  have h1 : ¬ (1048576 : Int) < (zs0.length : Int) := by omega
  go_enter Try.func3, Try.ntmps3
  go_wp2_with fail
  refine (lawful_draw a0 cb co ccap zs0 w hz hl hc).mono ?_
  rintro e w1 ⟨q, s, fr, b, a, b0, o, cap, l, c, db, do_, dcap, zs, rfl, hll, hs1, hzl, hi1, hb1⟩
  clear hz h1
  have D1 : LwD w (w1.alloc (.cells #[.int .i64 q, .int .i64 s, .slice a l.length cap, .int .i64 fr, .int .i64 b] 27)) w1.heap.size q s fr b a b0 o cap l c db do_ zs :=
    ⟨hb1.alloc hb1.size _, PathAt.new w1 q s fr b _, hs1.alloc _, hi1.alloc _⟩
  clear hs1 hi1 hb1
  go_wp2_with fail
  refine (hI q s fr b a b0 o cap l _ (by omega) D1.st).mono ?_
  rintro e w2 ⟨v2, rfl, ho2, hb2⟩
  have D2 := D1.below hb2
  have hsl : ∃ va vc, v2 = .slice va (flyL q s fr b l).length vc := by
    rcases ho2.2 with ⟨rfl, h0⟩ | ⟨g, c, cur, rfl, _⟩
    · exact ⟨none, 0, by rw [h0]⟩
    · exact ⟨_, c, rfl⟩
  obtain ⟨va, vc, rfl⟩ := hsl
  clear D1 hb2
  generalize w1.heap.size = X at *
  obtain ⟨⟨e0, e1, e2, e3, e4⟩, ef⟩ := D2.pa.cells
  go_wp2_with fail
  refine (flySpansS_any q s fr b a b0 o cap l _ (by omega) D2.st).mono ?_
  rintro e w3 ⟨v3, rfl, ho3, hb3⟩
  have D3 := D2.below hb3
  have ho2' := owns_below ho2 hb3
  have hsl3 : ∃ va vc, v3 = .slice va (flyL q s fr b l).length vc := by
    rcases ho3.2 with ⟨rfl, h0⟩ | ⟨g, c, cur, rfl, _⟩
    · exact ⟨none, 0, by rw [h0]⟩
    · exact ⟨_, c, rfl⟩
  obtain ⟨va3, vc3, rfl⟩ := hsl3
  have hfl := flyL_le q s fr b l
  clear D2 hb3 ho2 e0 e1 e2 e3 e4 ef
  obtain ⟨⟨e0, e1, e2, e3, e4⟩, ef⟩ := D3.pa.cells
  obtain ⟨fb, hfb⟩ : ∃ fb, flyB q s fr b l = fb := ⟨_, rfl⟩
  obtain ⟨sp, hsp⟩ : ∃ sp, flyL q s fr b l = sp := ⟨_, rfl⟩
  obtain ⟨lb, hlb⟩ : ∃ lb, lawB q s fr b l zs = lb := ⟨_, rfl⟩
  rw [hfb, hsp]
  rw [hsp] at ho2' ho3 hfl
  have HFB : Hid (flyB q s fr b l = fb) := hfb
  have HSP : Hid (flyL q s fr b l = sp) := hsp
  have HLB : Hid (lawB q s fr b l zs = lb) := hlb
  have hX3 := D3.pa.lt
  have n1 : (fb != fb) = false := by simp
  have n2 : (lb != lb) = false := by simp
  have qn := Cls.any w3
  have q0 : ∀ u : Cls w3, u.it.cell? ⟨X, 0, none⟩ = some (.int .i64 q) := fun u => (Cls.cell hX3 u 0).trans e0
  have q1 : ∀ u : Cls w3, u.it.cell? ⟨X, 1, none⟩ = some (.int .i64 s) := fun u => (Cls.cell hX3 u 1).trans e1
  have q2 : ∀ u : Cls w3, u.it.cell? ⟨X, 2, none⟩ = some (.slice a l.length cap) := fun u => (Cls.cell hX3 u 2).trans e2
  have q3 : ∀ u : Cls w3, u.it.cell? ⟨X, 3, none⟩ = some (.int .i64 fr) := fun u => (Cls.cell hX3 u 3).trans e3
  have q4 : ∀ u : Cls w3, u.it.cell? ⟨X, 4, none⟩ = some (.int .i64 b) := fun u => (Cls.cell hX3 u 4).trans e4
  have C1 : ∀ u : Cls w3, Calls Try.prog 9 #[.slice va sp.length vc, .slice va3 sp.length vc3] u.it fun e w' => e = .returned (.bool true) ∧ Below u.it.heap.size u.it w' := fun u => wfSpans_same _ _ _ _ _ sp u.it rfl (by omega) (owns_below ho2' u.same) (owns_below ho3 u.same)
  have C2 : ∀ u : Cls w3, Calls Try.prog 10 #[.agg #[.int .i64 q, .int .i64 s, .slice a l.length cap, .int .i64 fr, .int .i64 b], .slice c zs.length dcap] u.it fun e w' => e = .returned (.bool lb) ∧ Below u.it.heap.size u.it w' := fun u => by
    rw [← hlb]; exact lawful_any q s fr b a b0 o cap l c db do_ dcap zs u.it (by omega) (by omega) (D3.below u.same).st (D3.below u.same).it hF
  have C3 : ∀ u : Cls w3, Calls Try.prog 11 #[.agg #[.int .i64 q, .int .i64 s, .slice a l.length cap, .int .i64 fr, .int .i64 b], .slice c zs.length dcap] u.it fun e w' => e = .returned (.bool lb) ∧ Below u.it.heap.size u.it w' := fun u => by
    rw [← hlb]; exact lawS_any q s fr b a b0 o cap l c db do_ dcap zs u.it (by omega) (by omega) (D3.below u.same).st (D3.below u.same).it
  clear hfb hsp hlb
  go_wp2
  refine wp_region_cls (by kernel_rfl) (by kernel_rfl) ?_
  repeat (go_big_quiet_step ((first | (go_at_call 9; exact Calls.cls_of (C1 _)) | (go_at_call 10; exact Calls.cls_of (C2 _)) | (go_at_call 11; exact Calls.cls_of (C3 _)))))
  refine wpQuiet_nil ?_
  rintro _ ⟨u, rfl⟩
  have D4 := D3.below u.same
  have ho4 := owns_below ho2' u.same
  clear C1 C2 C3 q0 q1 q2 q3 q4 qn n1 n2 ho3 ho2' D3 e0 e1 e2 e3 e4 ef hX3
  generalize u.it = w4 at *
  obtain ⟨⟨e0, e1, e2, e3, e4⟩, ef⟩ := D4.pa.cells
  go_wp2_with fail
  refine (flyfirst_any hI q s fr b a b0 o cap l _ (by omega) D4.st).mono ?_
  rintro e w5 ⟨v5, rfl, ho5, hb5⟩
  rw [HSP.out] at ho5
  have D5 := D4.below hb5
  have ho4' := owns_below ho4 hb5
  clear D4 ho4 hb5 e0 e1 e2 e3 e4 ef
  obtain ⟨⟨e0, e1, e2, e3, e4⟩, ef⟩ := D5.pa.cells
  go_wp2_with fail
  refine (flylast_any hI q s fr b a b0 o cap l _ (by omega) D5.st).mono ?_
  rintro e w6 ⟨v6, rfl, ho6, hb6⟩
  rw [HSP.out] at ho6
  have D6 := D5.below hb6
  have ho4 := owns_below ho4' hb6
  have ho5' := owns_below ho5 hb6
  clear D5 ho4' ho5 hb6 e0 e1 e2 e3 e4 ef
  obtain ⟨f5, g5, c5, rfl, hI5, hd5⟩ := ints_owned ho5'
  obtain ⟨f6, g6, c6, rfl, hI6, hd6⟩ := ints_owned ho6
  obtain ⟨⟨e0, e1, e2, e3, e4⟩, ef⟩ := D6.pa.cells
  cases fb with
  | false =>
    have hsp0 : sp = [] := by rw [← HSP.out]; exact no_list HFB.out
    have hlb0 : lb = false := by rw [← HLB.out]; exact no_flight HFB.out zs
    subst hsp0 hlb0
    go_wp2_with fail
    refine (lawful_any q s fr b a b0 o cap l c db do_ dcap zs _ (by omega) (by omega) D6.st D6.it hF).mono ?_
    rintro e w7 ⟨rfl, hb7⟩
    rw [HLB.out]
    have D7 := D6.below hb7
    go_wp2
    go_ret
    exact ⟨rfl, D7.old⟩
  | true =>
    have hsn : sp.length = l.length + 1 := by rw [← HSP.out]; exact map_len HFB.out
    have hA1 : allowB q s fr b l (sp.map (·.1)) = true := by rw [← HSP.out]; exact first_allow HFB.out
    have hA2 : allowB q s fr b l (sp.map (·.2)) = true := by rw [← HSP.out]; exact last_allow HFB.out
    have H1 : Hid (allowB q s fr b l (sp.map (·.1)) = true) := hA1
    have H2 : Hid (allowB q s fr b l (sp.map (·.2)) = true) := hA2
    have HSN : Hid (sp.length = l.length + 1) := hsn
    have hm1 : (sp.map (·.1)).length = sp.length := List.length_map _
    have hm2 : (sp.map (·.2)).length = sp.length := List.length_map _
    have hne : ((sp.length : Int) != (l.length : Int) + 1) = false := by simp; omega
    clear hA1 hA2
    go_wp2_with fail
    have hc1 := allow_any q s fr b a b0 o cap l f5 g5 0 c5 (sp.map (·.1)) w6 (by omega) (by omega) D6.st hI5
    rw [hm1, hsn, H1.out] at hc1
    refine hc1.mono ?_
    rintro e w7 ⟨rfl, hb7⟩
    have D7 := D6.below hb7
    have ho4' := owns_below ho4 hb7
    have hI5' := hI5.below hb7 hI5.lt
    have hI6' := hI6.below hb7 hI6.lt
    clear hc1 D6 ho4 hI5 hI6 hb7 ho5' ho6 e0 e1 e2 e3 e4 ef
    obtain ⟨⟨e0, e1, e2, e3, e4⟩, ef⟩ := D7.pa.cells
    go_wp2_with fail
    have hc1 := allow_any q s fr b a b0 o cap l f6 g6 0 c6 (sp.map (·.2)) w7 (by omega) (by omega) D7.st hI6'
    rw [hm2, hsn, H2.out] at hc1
    refine hc1.mono ?_
    rintro e w8 ⟨rfl, hb8⟩
    have D8 := D7.below hb8
    have ho4 := owns_below ho4' hb8
    have hI5 := hI5'.below hb8 hI5'.lt
    have hI6 := hI6'.below hb8 hI6'.lt
    clear hc1 D7 ho4' hI5' hI6' hb8 e0 e1 e2 e3 e4 ef
    obtain ⟨⟨e0, e1, e2, e3, e4⟩, ef⟩ := D8.pa.cells
    go_wp2_with fail
    have hab : allowB q s fr b l zs = lb := by rw [allow_law (flyL_at HFB.out).1]; exact HLB.out
    refine (allow_any q s fr b a b0 o cap l c db do_ dcap zs _ (by omega) (by omega) D8.st D8.it).mono ?_
    rw [hab]
    rintro e w9 ⟨rfl, hb9⟩
    have D9 := D8.below hb9
    have ho4' := owns_below ho4 hb9
    have hI5' := hI5.below hb9 hI5.lt
    have hI6' := hI6.below hb9 hI6.lt
    have HAB : Hid (allowB q s fr b l zs = lb) := hab
    clear D8 ho4 hI5 hI6 hb9 e0 e1 e2 e3 e4 ef hab
    go_wp2
    go_loopw [12] (fun s12 wr => ∃ k : Nat, s12 = .int .i64 (k : Int) ∧ k ≤ l.length + 1 ∧ LwD w wr X q s fr b a b0 o cap l c db do_ zs ∧ wr.ownsRow 0 38 2 (.slice va sp.length vc) sp.length (spanCells sp) ∧ IntsAt wr f5 g5 0 (sp.map (·.1)) ∧ IntsAt wr f6 g6 0 (sp.map (·.2))) (fun s12 _ => l.length + 1 - (intOf s12).toNat)
    case atStart => exact ⟨0, rfl, by omega, D9, ⟨ho4'.1, ho4'.2.imp id fun ⟨g, cap, cur, h1, h2, h3⟩ => ⟨g, cap, cur, h1, Nat.zero_le _, h3⟩⟩, hI5', hI6'⟩
    case round =>
      obtain ⟨k, rfl, hk, D10, ho10, hI7, hI8⟩ := hrel
      clear D9 ho4' hI5' hI6'
      have k0 : (0 : Int) ≤ (k : Int) := by omega
      by_cases hlt : k < l.length + 1
      · have k1 : (k : Int) < (l.length : Int) + 1 := by omega
        obtain ⟨⟨lo, hi⟩, hspk⟩ : ∃ x, sp[k]? = some x := ⟨_, List.getElem?_eq_getElem (by omega)⟩
        obtain ⟨y0, y1⟩ := spanCells_get sp k _ hspk
        obtain ⟨g, gc, hgv, hg1, hg2⟩ := owns_some ho10 (by omega)
        obtain ⟨hva, hvc⟩ : va = some ⟨g, 0, none⟩ ∧ vc = gc := by cases hgv; exact ⟨rfl, rfl⟩
        subst hva hvc
        have x0 := (ho10.cellAt (k * 2) (by omega)).trans y0
        have x1 := (ho10.cellAt (k * 2 + 1) (by omega)).trans y1
        have z5 := hI7.cell k lo (by rw [List.getElem?_map, hspk]; rfl)
        have z6 := hI8.cell k hi (by rw [List.getElem?_map, hspk]; rfl)
        have hne5 : sp.map (·.1) ≠ [] := by intro e; have := congrArg List.length e; simp at this; subst this; simp at hspk
        have hne6 : sp.map (·.2) ≠ [] := by intro e; have := congrArg List.length e; simp at this; subst this; simp at hspk
        obtain rfl := hI7.here hne5
        obtain rfl := hI8.here hne6
        rw [Nat.zero_add] at z5 z6
        have n1 : (lo != lo) = false := by simp
        have n2 : (hi != hi) = false := by simp
        have hbt : Hid (lb = true → lo ≤ zs.getD k 0 ∧ zs.getD k 0 ≤ hi ∧ zs.length = l.length + 1) := fun hl1 => by
          have hal : allowB q s fr b l zs = true := by rw [HAB.out]; exact hl1
          have h1 := between HFB.out hal (show k ≤ l.length by omega)
          have h2 := map_at HFB.out (show k ≤ l.length by omega)
          rw [HSP.out, hspk] at h2
          have h3 : spanAt q s fr b l l.length k = (lo, hi) := (Option.some.inj h2).symm
          rw [h3] at h1
          exact ⟨h1.1, h1.2, ((allowB_keeps (flyL_at HFB.out).1 zs).1 hal).1⟩
        have hX10 := D10.pa.lt
        clear y0 y1 hspk hne5 hne6 hgv
        cases lb with
        | false =>
          go_wp2
          go_quiet (fail)
          go_wp2
          go_roundw
          case rel =>
            have hdr : Below wr.heap.size wr (wr.drewN nq) := ⟨rfl, rfl, rfl, Nat.le_refl _, fun _ _ => rfl⟩
            exact ⟨k + 1, by simp, by omega, D10.below hdr, owns_below ho10 hdr, hI7.below hdr hI7.lt, hI8.below hdr hI8.lt⟩
          case measure => simp [intOf]; omega
        | true =>
          obtain ⟨b1, b2, b3⟩ := hbt.out rfl
          have hzne : zs ≠ [] := by intro e; rw [e] at b3; simp at b3
          obtain rfl := D10.it.here hzne
          obtain ⟨z, hzk⟩ : ∃ z, zs[k]? = some z := ⟨_, List.getElem?_eq_getElem (by omega)⟩
          have z7 := D10.it.cell k z hzk
          rw [List.getD_eq_getElem?_getD, hzk] at b1 b2
          have b1' : lo ≤ z := b1
          have b2' : z ≤ hi := b2
          have m1 : decide (z < lo) = false := decide_eq_false (by omega)
          have m2 : decide (hi < z) = false := decide_eq_false (by omega)
          have k3 : (k : Int) < (zs.length : Int) := by omega
          have HB3 : Hid (zs.length = l.length + 1) := b3
          clear b1 b2 hzk hbt b3
          go_wp2
          go_quiet (fail)
          go_wp2
          go_roundw
          case rel =>
            have hdr : Below wr.heap.size wr (wr.drewN nq) := ⟨rfl, rfl, rfl, Nat.le_refl _, fun _ _ => rfl⟩
            exact ⟨k + 1, by simp, by omega, D10.below hdr, owns_below ho10 hdr, hI7.below hdr hI7.lt, hI8.below hdr hI8.lt⟩
          case measure => simp [intOf]; omega
      · obtain rfl : k = l.length + 1 := by omega
        obtain ⟨⟨e0, e1, e2, e3, e4⟩, ef⟩ := D10.pa.cells
        go_wp2_with fail
        refine (lawful_any q s fr b a b0 o cap l c db do_ dcap zs _ (by omega) (by omega) D10.st D10.it hF).mono ?_
        rintro e w11 ⟨rfl, hb11⟩
        rw [HLB.out]
        have D11 := D10.below hb11
        have n1 : (lb == lb) = true := by simp
        go_wp2
        go_ret
        exact ⟨rfl, D11.old⟩
end Go.Proofs.Ytndfacmfjilbkaa

namespace Go.Proofs.Ytndfacmfjilbkaa
open Go.RowKit

/-- The windows of the first k places. -/
def winL (fr b : Int) (l : List Stp) (k : Nat) : List (Int × Int) := (List.range k).map fun i => (lowB fr l i, highB b l i)
theorem winL_succ (fr b : Int) (l : List Stp) (k : Nat) : winL fr b l (k + 1) = winL fr b l k ++ [(lowB fr l k, highB b l k)] := by simp [winL, List.range_succ]

theorem span_info2 : (Try.prog.info? 38).map (fun i => (i.zero, i.size, i.bytes)) = some (some (.agg #[.int .i64 0, .int .i64 0]), 2, 16) := by kernel_rfl

set_option maxRecDepth 20000 in
set_option maxHeartbeats 2000000 in
theorem winds_any (q s fr b : Int) (a : Option Addr) (b0 o cap : Nat) (l : List Stp) (w : World) (hl : l.length ≤ 1048576) (hs : StepsAt w a b0 o l) :
    Calls Try.prog 32 #[.agg #[.int .i64 q, .int .i64 s, .slice a l.length cap, .int .i64 fr, .int .i64 b]] w
      fun e w' => ∃ v, e = .returned v ∧ w'.ownsRow w.heap.size 38 2 v (l.length + 1) (spanCells (winL fr b l (l.length + 1))) ∧ Below w.heap.size w w' := by
  obtain ⟨i0, hi, hz0, hz1, hz2⟩ := info_parts span_info2
  go_enter Try.func32, Try.ntmps32
  go_wp2_with fail
  refine (bounds_any _ _ _ _ _ b0 o _ _ _ hl (hs.alloc _)).mono ?_
  rintro e w1 ⟨v, rfl, hown, hb1⟩
  have hB1 := (BoxP.new w q s fr b (.slice a l.length cap) 27).below hb1
  obtain ⟨g, vcap, rfl, _, hg⟩ := owns_some hown (by omega)
  have HX : Hid (∀ j, j < l.length + 1 → w1.cell? ⟨g, j, none⟩ = (bndTo l l.length ++ [Value.iface 107 (.agg #[.int .i64 fr, .int .i64 b])])[j]?) := fun j hj => hown.cellAt j (by omega)
  clear hown hb1
  go_wp2
  go_loopw [3, 11] (fun v u wr => ∃ k : Nat, k ≤ l.length + 1 ∧ u = .int .i64 k ∧ Below w1.heap.size w1 wr ∧ wr.ownsRow w1.heap.size 38 2 v k (spanCells (winL fr b l k))) (fun _ u _ => l.length + 1 - (intOf u).toNat)
  case atStart => exact ⟨0, Nat.zero_le _, rfl, Below.refl _ _, World.ownsRow_nil _ _ _ _⟩
  case round =>
    obtain ⟨k, hk, rfl, hb, hown⟩ := hrel
    by_cases hlt : k < l.length + 1
    · have hcell : wr.cell? ⟨g, k, none⟩ = _ := (hb.cell (p := ⟨g, k, none⟩) hg).trans (HX.out k hlt)
      have hz := hb.size
      by_cases hkl : k < l.length
      · have e1 : (bndTo l l.length ++ [Value.iface 107 (.agg #[.int .i64 fr, .int .i64 b])])[k]? = some (stepV (l.getD k .zero)) := by
          rw [List.getElem?_append_left (by rw [bndTo_length]; exact hkl)]
          simp [bndTo, hkl]
        rw [e1] at hcell
        obtain ⟨t, ht⟩ : ∃ t, l.getD k .zero = t := ⟨_, rfl⟩
        rw [ht] at hcell
        clear e1
        have hm := method_step _ Try.underlying87 t
        have HE : Hid (winL fr b l (k + 1) = winL fr b l k ++ [(t.fr, t.by_)]) := by show _ = _; rw [winL_succ]; unfold lowB highB; rw [if_pos hkl, if_pos hkl, ht]
        clear ht
        go_wp2_with (first
          | (go_at_call 103; refine (windowS_any _ _ _ _ _ _ _ _).mono ?_; rintro e w2 ⟨rfl, hb2⟩)
          | (at_builtin; (refine wpList_append_own _ rfl _ _ 31 rfl w1.heap.size 38 i0 (.agg #[.int .i64 0, .int .i64 0]) 2 16 Try.underlying31 hi hz0 hz1 hz2 rfl (by decide) _ _ _ rfl ((owns_below hown hb2).alloc _) ⟨w2.heap.size, 0, none⟩ 1 1 [.int .i64 t.fr, .int .i64 t.by_] rfl rfl (two_new _ _ _ _) (by simp [Value.oneCell']) (by unfold maxLen; omega) (by omega) (by have := hb2.size; simp; omega) ?_); intro v' w3 hown' hgrow _))
        have hbel : Below w1.heap.size wr w3 := ((hb2.mono hz).alloc (by have := hb2.size; omega) _).grown hgrow (by have := hb2.size; simp; omega) (owns_base hown)
        go_roundw
        case rel =>
          refine ⟨k + 1, by omega, by go_num, hb.trans hbel, ?_⟩
          rw [HE.out, spanCells_snoc]
          exact hown'
        case measure => simp [intOf]; omega
      · have e1 : (bndTo l l.length ++ [Value.iface 107 (.agg #[.int .i64 fr, .int .i64 b])])[k]? = some (Value.iface 107 (.agg #[.int .i64 fr, .int .i64 b])) := by
          rw [List.getElem?_append_right (by rw [bndTo_length]; omega), bndTo_length, show k - l.length = 0 by omega]
          rfl
        rw [e1] at hcell
        clear e1
        have hm := method_end _ Try.underlying87 fr b
        have HE : Hid (winL fr b l (k + 1) = winL fr b l k ++ [(fr, b)]) := by show _ = _; rw [winL_succ]; unfold lowB highB; rw [if_neg hkl, if_neg hkl]
        go_wp2_with (first
          | (go_at_call 104; refine (windowE_any _ _ _).mono ?_; rintro e w2 ⟨rfl, hb2⟩)
          | (at_builtin; (refine wpList_append_own _ rfl _ _ 31 rfl w1.heap.size 38 i0 (.agg #[.int .i64 0, .int .i64 0]) 2 16 Try.underlying31 hi hz0 hz1 hz2 rfl (by decide) _ _ _ rfl ((owns_below hown hb2).alloc _) ⟨w2.heap.size, 0, none⟩ 1 1 [.int .i64 fr, .int .i64 b] rfl rfl (two_new _ _ _ _) (by simp [Value.oneCell']) (by unfold maxLen; omega) (by omega) (by have := hb2.size; simp; omega) ?_); intro v' w3 hown' hgrow _))
        have hbel : Below w1.heap.size wr w3 := ((hb2.mono hz).alloc (by have := hb2.size; omega) _).grown hgrow (by have := hb2.size; simp; omega) (owns_base hown)
        go_roundw
        case rel =>
          refine ⟨k + 1, by omega, by go_num, hb.trans hbel, ?_⟩
          rw [HE.out, spanCells_snoc]
          exact hown'
        case measure => simp [intOf]; omega
    · obtain rfl : k = l.length + 1 := by omega
      have hz := hB1.old.size
      go_wp2
      go_ret
      exact ⟨_, rfl, ⟨hown.1, hown.2.imp id fun ⟨g, cap, cur, h1, h2, h3⟩ => ⟨g, cap, cur, h1, by omega, h3⟩⟩, hB1.old.trans (hb.mono hB1.old.size)⟩
end Go.Proofs.Ytndfacmfjilbkaa
