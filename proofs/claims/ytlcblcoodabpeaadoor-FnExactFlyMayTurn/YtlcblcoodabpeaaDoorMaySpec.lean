/- The specification's FlyMayTurn, by its contract. -/
import Derived.Test.YtlcblcoodabpeaaDoorMayData
import Derived.Test.YtlcblcoodabpeaaDoorShared
import Derived.Test.YtlcblcoodabpeaaDoorSeenSpec
import Derived.Test.YtlcblcoodabpeaaDoorJ06
import Derived.Deep.RegionHeld3
namespace Go.Proofs.YtlcblcoodabpeaaDoor
open Go.RowKit

theorem spanCells_both {xs : List (Int × Int)} {i : Nat} {x : Int × Int} (h : xs[i]? = some x) : (spanCells xs)[i * 2]? = some (.int .i64 x.1) ∧ (spanCells xs)[i * 2 + 1]? = some (.int .i64 x.2) := spanCells_get xs i x h

set_option maxHeartbeats 8000000 in
set_option maxRecDepth 20000 in
theorem flyMayS_any (q s fr b : Int) (a : Option Addr) (b0 o cap : Nat) (l : List Stp) (q' s' fr' b' : Int) (a' : Option Addr) (b0' o' cap' : Nat) (l' : List Stp) (st nw : Int) (w : World) (hl : l.length ≤ 1048576) (hl' : l'.length ≤ 1048576) (hs : StepsAt w a b0 o l) (hs' : StepsAt w a' b0' o' l') (hcap : l.length ≤ cap) (hcap' : l'.length ≤ cap') :
    Calls Tryd.prog 15 #[.agg #[.int .i64 q, .int .i64 s, .slice a l.length cap, .int .i64 fr, .int .i64 b], .agg #[.int .i64 q', .int .i64 s', .slice a' l'.length cap', .int .i64 fr', .int .i64 b'], .int .i64 st, .int .i64 nw] w
      fun e w' => e = .returned (.bool (mayB q s fr b l q' s' fr' b' l' st nw)) ∧ Below w.heap.size w w' := by
  have T1 := TwoP.new w q s fr b (.slice a l.length cap) q' s' fr' b' (.slice a' l'.length cap')
  have hsA := fun W (hW : StepsAt W a b0 o l) => flySeenS_any q s fr b st nw a b0 o cap l W hl hW hcap
  have hA1 := @seenA_ok q s fr b l st nw
  obtain ⟨n, hn⟩ : ∃ n, sharedN q s l q' s' l' = n := ⟨_, rfl⟩
  have HM : Hid (mayB q s fr b l q' s' fr' b' l' st nw = (decide (st < (n : Int)) && (seenA q s fr b l st nw).ok && ((restA q' s' fr' b' l' st (firstOf (seenA q s fr b l st nw)).1 nw).ok && (restA q' s' fr' b' l' st (firstOf (seenA q s fr b l st nw)).2 nw).ok))) := by
    show _ = _; unfold mayB; rw [hn]
  have hSh := fun W (hW : StepsAt W a b0 o l) (hW' : StepsAt W a' b0' o' l') => sharedS_any q s fr b a b0 o cap l q' s' fr' b' a' b0' o' cap' l' W hl hl' hW hW'
  rw [hn] at hSh
  clear hn
  generalize seenA q s fr b l st nw = A at hsA hA1 HM
  go_enter Tryd.func15, Tryd.ntmps15
  go_wp2_with fail
  refine (hsA _ (hs.below T1.old hs.lt)).mono ?_
  rintro e w2 ⟨v2, rfl, ho2, hb2⟩
  obtain ⟨a2, j2, c2, hv2, hs2⟩ := steps_of ho2
  subst hv2
  have T2 := T1.below hb2
  have al : Below w2.heap.size w2 (w2.alloc (.cells #[.int .i64 A.q, .int .i64 A.s, .slice a2 A.l.length c2, .int .i64 A.fr, .int .i64 A.b] 31)) := (Below.refl _ _).alloc (Nat.le_refl _) _
  have X2 := PathAt.new w2 A.q A.s A.fr A.b (.slice a2 A.l.length c2)
  have T3 := T2.below al
  have hs3 := hs2.alloc (.cells #[.int .i64 A.q, .int .i64 A.s, .slice a2 A.l.length c2, .int .i64 A.fr, .int .i64 A.b] 31)
  clear T1 T2 hb2 hsA ho2 hs2 al
  cases hok : A.ok with
  | false =>
    rw [hok, Bool.and_false, Bool.false_and] at HM
    clear X2 hSh
    go_wp2
    go_ret
    exact ⟨by rw [HM.out]; rfl, T3.old⟩
  | true =>
    rw [hok, Bool.and_true] at HM
    obtain ⟨⟨z0, z1, z2, z3, z4⟩, _⟩ := T3.pb.cells
    obtain ⟨⟨p0, p1, p2, p3, p4⟩, _⟩ := T3.pa.cells
    go_wp2_with fail
    refine (pathS_any q' s' fr' b' a' b0' o' cap' l' _ hl' (hs'.below T3.old hs'.lt)).mono ?_
    rintro e w4 ⟨rfl, hb4⟩
    have T4 := T3.below hb4
    have X4 := X2.keep hb4 X2.lt
    have hs4 := hs3.below hb4 hs3.lt
    clear z0 z1 z2 z3 z4 p0 p1 p2 p3 p4 T3 X2 hs3 hb4
    cases hp' : pathB q' s' fr' b' l' with
    | false =>
      have HF : Hid (mayB q s fr b l q' s' fr' b' l' st nw = false) := by show _ = _; rw [HM.out, restA_path hp', Bool.false_and, Bool.and_false]
      clear hSh
      go_wp2
      go_ret
      exact ⟨by rw [HF.out]; rfl, T4.old⟩
    | true =>
      obtain ⟨⟨z0, z1, z2, z3, z4⟩, _⟩ := T4.pb.cells
      obtain ⟨⟨p0, p1, p2, p3, p4⟩, _⟩ := T4.pa.cells
      go_wp2_with fail
      refine (hSh _ (hs.below T4.old hs.lt) (hs'.below T4.old hs'.lt)).mono ?_
      rintro e w5 ⟨rfl, hb5⟩
      have T5 := T4.below hb5
      have X5 := X4.keep hb5 X4.lt
      have hs5 := hs4.below hb5 hs4.lt
      clear z0 z1 z2 z3 z4 p0 p1 p2 p3 p4 T4 X4 hs4 hb5 hSh hp'
      by_cases h1 : (n : Int) ≤ st
      · have HF : Hid (mayB q s fr b l q' s' fr' b' l' st nw = false) := by show _ = _; rw [HM.out, show decide (st < (n : Int)) = false by simp; omega, Bool.false_and]
        go_wp2
        go_ret
        exact ⟨by rw [HF.out]; rfl, T5.old⟩
      rw [show decide (st < (n : Int)) = true by simp; omega, Bool.true_and] at HM
      obtain ⟨hpA, hsb⟩ := hA1 hok
      have hAl := path_len hpA
      have hsl : (spansL A.q A.s A.fr A.b A.l).length = A.l.length + 1 := by unfold spansL; rw [if_pos hsb]; simp
      have hC := spansS_wide A.q A.s A.fr A.b a2 j2 0 c2 A.l w5 hs5 (Wide.of hpA)
      rw [hsl, hsb] at hC
      have hf1 := spans_first hsb
      obtain ⟨x, hx⟩ : ∃ x, firstOf A = x := ⟨_, rfl⟩
      rw [hx] at HM
      unfold firstOf at hx
      rw [hx] at hf1
      obtain ⟨⟨y0, y1, y2, y3, y4⟩, _⟩ := X5.cells
      go_wp2_with fail
      refine hC.mono ?_
      rintro e w6 ⟨v6, rfl, ho6, hb6⟩
      obtain ⟨g3, k3, rfl, _, hg3⟩ := owns_some ho6 (by omega)
      have r0 := (ho6.cellAt 0 (by omega)).trans (spanCells_both hf1).1
      have r1 := (ho6.cellAt 1 (by omega)).trans (spanCells_both hf1).2
      have T6 := T5.below hb6
      clear y0 y1 y2 y3 y4 hC hb6 T5 X5 hs5 ho6 hx hf1 hsl hpA hsb hA1 hok
      obtain ⟨⟨z0, z1, z2, z3, z4⟩, _⟩ := T6.pb.cells
      have zX : w.heap.size + 1 < w6.heap.size := T6.pb.lt
      have hs6 : StepsAt w6 a' b0' o' l' := hs'.below T6.old hs'.lt
      have L1 := fun W (hW : StepsAt W a' b0' o' l') => flyRestS_any q' s' fr' b' st x.1 nw a' b0' o' cap' l' W hl' hW hcap'
      have KD : StepsAt w6.drew a' b0' o' l' := hs6.below (Below.refl w6.heap.size w6).drew hs6.lt
      have BA : Below w6.heap.size w6 (w6.alloc (.cells #[.int .i64 0, .int .i64 0, .slice none 0 0, .int .i64 0, .int .i64 0] 31)).drew := ((Below.refl w6.heap.size w6).alloc (Nat.le_refl _) _).drew
      have KA : StepsAt (w6.alloc (.cells #[.int .i64 0, .int .i64 0, .slice none 0 0, .int .i64 0, .int .i64 0] 31)).drew a' b0' o' l' := hs6.below BA hs6.lt
      have sA : (w6.alloc (.cells #[.int .i64 0, .int .i64 0, .slice none 0 0, .int .i64 0, .int .i64 0] 31)).drew.heap.size = w6.heap.size + 1 := World.size_alloc _ _
      have PA : PathAt (w6.alloc (.cells #[.int .i64 0, .int .i64 0, .slice none 0 0, .int .i64 0, .int .i64 0] 31)).drew w6.heap.size 0 0 0 0 (.slice none 0 0) := (PathAt.new w6 0 0 0 0 (.slice none 0 0)).keep (Below.refl (w6.heap.size + 1) _).drew (by omega)
      have L2 := fun W (hW : StepsAt W a' b0' o' l') => flyRestS_any q' s' fr' b' st x.2 nw a' b0' o' cap' l' W hl' hW hcap'
      have l0 : (0 : Int) < ((A.l.length + 1 : Nat) : Int) := by omega
      generalize restA q' s' fr' b' l' st x.1 nw = R1 at L1 HM
      generalize restA q' s' fr' b' l' st x.2 nw = R2 at L2 HM
      go_wp2
      go_region_held3 (fun w' => w'.cell? ⟨w.heap.size + 1, 0, none⟩ = some (.int .i64 q') ∧ w'.cell? ⟨w.heap.size + 1, 1, none⟩ = some (.int .i64 s') ∧ w'.cell? ⟨w.heap.size + 1, 2, none⟩ = some (.slice a' l'.length cap') ∧ w'.cell? ⟨w.heap.size + 1, 3, none⟩ = some (.int .i64 fr') ∧ w'.cell? ⟨w.heap.size + 1, 4, none⟩ = some (.int .i64 b') ∧ w'.cell? ⟨g3, 0, none⟩ = some (.int .i64 x.1))
        (first | (simp [go_sem, *]; done) | (simp [go_sem, World.cell?_alloc_lt, *]; done))
        (first
          | (go_at_call 7; refine (L1 _ KD).mono ?_; rintro e w7 ⟨v7, rfl, ho7, hb7⟩; obtain ⟨a7, j7, c7, hv7, _⟩ := steps_of ho7; subst hv7; have n0 : ∀ j, w7.cell? ⟨w.heap.size + 1, j, none⟩ = w6.cell? ⟨w.heap.size + 1, j, none⟩ := fun j => hb7.cell (p := ⟨w.heap.size + 1, j, none⟩) zX; have n1 : ∀ j, w7.cell? ⟨g3, j, none⟩ = w6.cell? ⟨g3, j, none⟩ := fun j => hb7.cell (p := ⟨g3, j, none⟩) hg3; have zX7 : w.heap.size + 1 < w7.heap.size := Nat.lt_of_lt_of_le zX hb7.size; have zg7 : g3 < w7.heap.size := Nat.lt_of_lt_of_le hg3 hb7.size; have B7 : Below w6.heap.size w6 w7 := ((Below.refl w6.heap.size w6).drew).trans hb7)
          | (go_at_call 7; refine (L1 _ KA).mono ?_; rintro e w7 ⟨v7, rfl, ho7, hb7⟩; obtain ⟨a7, j7, c7, hv7, _⟩ := steps_of ho7; subst hv7; have B7 : Below w6.heap.size w6 w7 := BA.trans (hb7.mono (by rw [sA]; omega)); have n0 : ∀ j, w7.cell? ⟨w.heap.size + 1, j, none⟩ = w6.cell? ⟨w.heap.size + 1, j, none⟩ := fun j => B7.cell (p := ⟨w.heap.size + 1, j, none⟩) zX; have n1 : ∀ j, w7.cell? ⟨g3, j, none⟩ = w6.cell? ⟨g3, j, none⟩ := fun j => B7.cell (p := ⟨g3, j, none⟩) hg3; have P7 := PA.keep hb7 (by rw [sA]; omega); have P7c := P7.cells; have d0 := P7c.1.1; have d1 := P7c.1.2.1; have d2 := P7c.1.2.2.1; have d3 := P7c.1.2.2.2.1; have d4 := P7c.1.2.2.2.2; have df := P7c.2; have gX : w6.heap.size ≠ w.heap.size + 1 := (by omega); have gG : w6.heap.size ≠ g3 := (by omega)))
      · have B8 : Below w6.heap.size w6 (w7.alloc (.cells #[.int .i64 R1.q, .int .i64 R1.s, .slice a7 R1.l.length c7, .int .i64 R1.fr, .int .i64 R1.b] 31)) := B7.alloc B7.size _
        clear n0 n1 zX7 zg7 hb7 ho7 B7
        generalize (w7.alloc (.cells #[.int .i64 R1.q, .int .i64 R1.s, .slice a7 R1.l.length c7, .int .i64 R1.fr, .int .i64 R1.b] 31)) = W8 at *
        have T8 := T6.below B8
        have r8 : W8.cell? ⟨g3, 1, none⟩ = some (.int .i64 x.2) := (B8.cell (p := ⟨g3, 1, none⟩) hg3).trans r1
        have hg8 : g3 < W8.heap.size := Nat.lt_of_lt_of_le hg3 B8.size
        have hs8 : StepsAt W8 a' b0' o' l' := hs'.below T8.old hs'.lt
        have zX8 : w.heap.size + 1 < W8.heap.size := T8.pb.lt
        clear B8 r0 r1 z0 z1 z2 z3 z4 hs6 KD BA KA sA PA zX T6 L1 hg3
        obtain ⟨⟨z0, z1, z2, z3, z4⟩, _⟩ := T8.pb.cells
        have KD : StepsAt W8.drew a' b0' o' l' := hs8.below (Below.refl W8.heap.size W8).drew hs8.lt
        have BA : Below W8.heap.size W8 (W8.alloc (.cells #[.int .i64 0, .int .i64 0, .slice none 0 0, .int .i64 0, .int .i64 0] 31)).drew := ((Below.refl W8.heap.size W8).alloc (Nat.le_refl _) _).drew
        have KA : StepsAt (W8.alloc (.cells #[.int .i64 0, .int .i64 0, .slice none 0 0, .int .i64 0, .int .i64 0] 31)).drew a' b0' o' l' := hs8.below BA hs8.lt
        have sA : (W8.alloc (.cells #[.int .i64 0, .int .i64 0, .slice none 0 0, .int .i64 0, .int .i64 0] 31)).drew.heap.size = W8.heap.size + 1 := World.size_alloc _ _
        have PA : PathAt (W8.alloc (.cells #[.int .i64 0, .int .i64 0, .slice none 0 0, .int .i64 0, .int .i64 0] 31)).drew W8.heap.size 0 0 0 0 (.slice none 0 0) := (PathAt.new W8 0 0 0 0 (.slice none 0 0)).keep (Below.refl (W8.heap.size + 1) _).drew (by omega)
        go_wp2
        go_region_held3 (fun w' => w'.cell? ⟨w.heap.size + 1, 0, none⟩ = some (.int .i64 q') ∧ w'.cell? ⟨w.heap.size + 1, 1, none⟩ = some (.int .i64 s') ∧ w'.cell? ⟨w.heap.size + 1, 2, none⟩ = some (.slice a' l'.length cap') ∧ w'.cell? ⟨w.heap.size + 1, 3, none⟩ = some (.int .i64 fr') ∧ w'.cell? ⟨w.heap.size + 1, 4, none⟩ = some (.int .i64 b') ∧ w'.cell? ⟨g3, 1, none⟩ = some (.int .i64 x.2))
          (first | (simp [go_sem, *]; done) | (simp [go_sem, World.cell?_alloc_lt, *]; done))
          (first
            | (go_at_call 7; refine (L2 _ KD).mono ?_; rintro e w9 ⟨v9, rfl, ho9, hb9⟩; obtain ⟨a9, j9, c9, hv9, _⟩ := steps_of ho9; subst hv9; have n0 : ∀ j, w9.cell? ⟨w.heap.size + 1, j, none⟩ = W8.cell? ⟨w.heap.size + 1, j, none⟩ := fun j => hb9.cell (p := ⟨w.heap.size + 1, j, none⟩) zX8; have n1 : ∀ j, w9.cell? ⟨g3, j, none⟩ = W8.cell? ⟨g3, j, none⟩ := fun j => hb9.cell (p := ⟨g3, j, none⟩) hg8; have zX7 : w.heap.size + 1 < w9.heap.size := Nat.lt_of_lt_of_le zX8 hb9.size; have zg7 : g3 < w9.heap.size := Nat.lt_of_lt_of_le hg8 hb9.size; have B9 : Below W8.heap.size W8 w9 := ((Below.refl W8.heap.size W8).drew).trans hb9)
            | (go_at_call 7; refine (L2 _ KA).mono ?_; rintro e w9 ⟨v9, rfl, ho9, hb9⟩; obtain ⟨a9, j9, c9, hv9, _⟩ := steps_of ho9; subst hv9; have B9 : Below W8.heap.size W8 w9 := BA.trans (hb9.mono (by rw [sA]; omega)); have n0 : ∀ j, w9.cell? ⟨w.heap.size + 1, j, none⟩ = W8.cell? ⟨w.heap.size + 1, j, none⟩ := fun j => B9.cell (p := ⟨w.heap.size + 1, j, none⟩) zX8; have n1 : ∀ j, w9.cell? ⟨g3, j, none⟩ = W8.cell? ⟨g3, j, none⟩ := fun j => B9.cell (p := ⟨g3, j, none⟩) hg8; have P7 := PA.keep hb9 (by rw [sA]; omega); have P7c := P7.cells; have d0 := P7c.1.1; have d1 := P7c.1.2.1; have d2 := P7c.1.2.2.1; have d3 := P7c.1.2.2.2.1; have d4 := P7c.1.2.2.2.2; have df := P7c.2; have gX : W8.heap.size ≠ w.heap.size + 1 := (by omega); have gG : W8.heap.size ≠ g3 := (by omega)))
        · have B10 : Below W8.heap.size W8 (w9.alloc (.cells #[.int .i64 R2.q, .int .i64 R2.s, .slice a9 R2.l.length c9, .int .i64 R2.fr, .int .i64 R2.b] 31)) := B9.alloc B9.size _
          have T9 := T8.below B10
          clear n0 n1 zX7 zg7 hb9 ho9 B9 B10 z0 z1 z2 z3 z4 KD BA KA sA PA
          generalize (w9.alloc (.cells #[.int .i64 R2.q, .int .i64 R2.s, .slice a9 R2.l.length c9, .int .i64 R2.fr, .int .i64 R2.b] 31)) = W9 at *
          cases hR : R1.ok with
          | false =>
            rw [hR, Bool.false_and] at HM
            go_wp2
            go_ret
            exact ⟨by rw [HM.out]; rfl, T9.old⟩
          | true =>
            rw [hR, Bool.true_and] at HM
            go_wp2
            go_ret
            exact ⟨by rw [HM.out]; rfl, T9.old⟩
        · have B10 : Below W8.heap.size W8 (((((w9.setCell ⟨W8.heap.size, 0, none⟩ (.int .i64 R2.q)).setCell ⟨W8.heap.size, 1, none⟩ (.int .i64 R2.s)).setCell ⟨W8.heap.size, 2, none⟩ (.slice a9 R2.l.length c9)).setCell ⟨W8.heap.size, 3, none⟩ (.int .i64 R2.fr)).setCell ⟨W8.heap.size, 4, none⟩ (.int .i64 R2.b)) := by
            iterate 5 (refine Below.setCell ?_ (by exact Nat.le_refl _) _)
            exact B9
          have T9 := T8.below B10
          clear n0 n1 hb9 ho9 B9 B10 P7 P7c d0 d1 d2 d3 d4 df z0 z1 z2 z3 z4 KD BA KA sA PA
          generalize (((((w9.setCell ⟨W8.heap.size, 0, none⟩ (.int .i64 R2.q)).setCell ⟨W8.heap.size, 1, none⟩ (.int .i64 R2.s)).setCell ⟨W8.heap.size, 2, none⟩ (.slice a9 R2.l.length c9)).setCell ⟨W8.heap.size, 3, none⟩ (.int .i64 R2.fr)).setCell ⟨W8.heap.size, 4, none⟩ (.int .i64 R2.b)) = W9 at *
          cases hR : R1.ok with
          | false =>
            rw [hR, Bool.false_and] at HM
            go_wp2
            go_ret
            exact ⟨by rw [HM.out]; rfl, T9.old⟩
          | true =>
            rw [hR, Bool.true_and] at HM
            go_wp2
            go_ret
            exact ⟨by rw [HM.out]; rfl, T9.old⟩
      · have B8 : Below w6.heap.size w6 (((((w7.setCell ⟨w6.heap.size, 0, none⟩ (.int .i64 R1.q)).setCell ⟨w6.heap.size, 1, none⟩ (.int .i64 R1.s)).setCell ⟨w6.heap.size, 2, none⟩ (.slice a7 R1.l.length c7)).setCell ⟨w6.heap.size, 3, none⟩ (.int .i64 R1.fr)).setCell ⟨w6.heap.size, 4, none⟩ (.int .i64 R1.b)) := by
          iterate 5 (refine Below.setCell ?_ (by exact Nat.le_refl _) _)
          exact B7
        clear n0 n1 hb7 ho7 B7 P7 P7c d0 d1 d2 d3 d4 df gX gG
        generalize (((((w7.setCell ⟨w6.heap.size, 0, none⟩ (.int .i64 R1.q)).setCell ⟨w6.heap.size, 1, none⟩ (.int .i64 R1.s)).setCell ⟨w6.heap.size, 2, none⟩ (.slice a7 R1.l.length c7)).setCell ⟨w6.heap.size, 3, none⟩ (.int .i64 R1.fr)).setCell ⟨w6.heap.size, 4, none⟩ (.int .i64 R1.b)) = W8 at *
        have T8 := T6.below B8
        have r8 : W8.cell? ⟨g3, 1, none⟩ = some (.int .i64 x.2) := (B8.cell (p := ⟨g3, 1, none⟩) hg3).trans r1
        have hg8 : g3 < W8.heap.size := Nat.lt_of_lt_of_le hg3 B8.size
        have hs8 : StepsAt W8 a' b0' o' l' := hs'.below T8.old hs'.lt
        have zX8 : w.heap.size + 1 < W8.heap.size := T8.pb.lt
        clear B8 r0 r1 z0 z1 z2 z3 z4 hs6 KD BA KA sA PA zX T6 L1 hg3
        obtain ⟨⟨z0, z1, z2, z3, z4⟩, _⟩ := T8.pb.cells
        have KD : StepsAt W8.drew a' b0' o' l' := hs8.below (Below.refl W8.heap.size W8).drew hs8.lt
        have BA : Below W8.heap.size W8 (W8.alloc (.cells #[.int .i64 0, .int .i64 0, .slice none 0 0, .int .i64 0, .int .i64 0] 31)).drew := ((Below.refl W8.heap.size W8).alloc (Nat.le_refl _) _).drew
        have KA : StepsAt (W8.alloc (.cells #[.int .i64 0, .int .i64 0, .slice none 0 0, .int .i64 0, .int .i64 0] 31)).drew a' b0' o' l' := hs8.below BA hs8.lt
        have sA : (W8.alloc (.cells #[.int .i64 0, .int .i64 0, .slice none 0 0, .int .i64 0, .int .i64 0] 31)).drew.heap.size = W8.heap.size + 1 := World.size_alloc _ _
        have PA : PathAt (W8.alloc (.cells #[.int .i64 0, .int .i64 0, .slice none 0 0, .int .i64 0, .int .i64 0] 31)).drew W8.heap.size 0 0 0 0 (.slice none 0 0) := (PathAt.new W8 0 0 0 0 (.slice none 0 0)).keep (Below.refl (W8.heap.size + 1) _).drew (by omega)
        go_wp2
        go_region_held3 (fun w' => w'.cell? ⟨w.heap.size + 1, 0, none⟩ = some (.int .i64 q') ∧ w'.cell? ⟨w.heap.size + 1, 1, none⟩ = some (.int .i64 s') ∧ w'.cell? ⟨w.heap.size + 1, 2, none⟩ = some (.slice a' l'.length cap') ∧ w'.cell? ⟨w.heap.size + 1, 3, none⟩ = some (.int .i64 fr') ∧ w'.cell? ⟨w.heap.size + 1, 4, none⟩ = some (.int .i64 b') ∧ w'.cell? ⟨g3, 1, none⟩ = some (.int .i64 x.2))
          (first | (simp [go_sem, *]; done) | (simp [go_sem, World.cell?_alloc_lt, *]; done))
          (first
            | (go_at_call 7; refine (L2 _ KD).mono ?_; rintro e w9 ⟨v9, rfl, ho9, hb9⟩; obtain ⟨a9, j9, c9, hv9, _⟩ := steps_of ho9; subst hv9; have n0 : ∀ j, w9.cell? ⟨w.heap.size + 1, j, none⟩ = W8.cell? ⟨w.heap.size + 1, j, none⟩ := fun j => hb9.cell (p := ⟨w.heap.size + 1, j, none⟩) zX8; have n1 : ∀ j, w9.cell? ⟨g3, j, none⟩ = W8.cell? ⟨g3, j, none⟩ := fun j => hb9.cell (p := ⟨g3, j, none⟩) hg8; have zX7 : w.heap.size + 1 < w9.heap.size := Nat.lt_of_lt_of_le zX8 hb9.size; have zg7 : g3 < w9.heap.size := Nat.lt_of_lt_of_le hg8 hb9.size; have B9 : Below W8.heap.size W8 w9 := ((Below.refl W8.heap.size W8).drew).trans hb9)
            | (go_at_call 7; refine (L2 _ KA).mono ?_; rintro e w9 ⟨v9, rfl, ho9, hb9⟩; obtain ⟨a9, j9, c9, hv9, _⟩ := steps_of ho9; subst hv9; have B9 : Below W8.heap.size W8 w9 := BA.trans (hb9.mono (by rw [sA]; omega)); have n0 : ∀ j, w9.cell? ⟨w.heap.size + 1, j, none⟩ = W8.cell? ⟨w.heap.size + 1, j, none⟩ := fun j => B9.cell (p := ⟨w.heap.size + 1, j, none⟩) zX8; have n1 : ∀ j, w9.cell? ⟨g3, j, none⟩ = W8.cell? ⟨g3, j, none⟩ := fun j => B9.cell (p := ⟨g3, j, none⟩) hg8; have P7 := PA.keep hb9 (by rw [sA]; omega); have P7c := P7.cells; have d0 := P7c.1.1; have d1 := P7c.1.2.1; have d2 := P7c.1.2.2.1; have d3 := P7c.1.2.2.2.1; have d4 := P7c.1.2.2.2.2; have df := P7c.2; have gX : W8.heap.size ≠ w.heap.size + 1 := (by omega); have gG : W8.heap.size ≠ g3 := (by omega)))
        · have B10 : Below W8.heap.size W8 (w9.alloc (.cells #[.int .i64 R2.q, .int .i64 R2.s, .slice a9 R2.l.length c9, .int .i64 R2.fr, .int .i64 R2.b] 31)) := B9.alloc B9.size _
          have T9 := T8.below B10
          clear n0 n1 zX7 zg7 hb9 ho9 B9 B10 z0 z1 z2 z3 z4 KD BA KA sA PA
          generalize (w9.alloc (.cells #[.int .i64 R2.q, .int .i64 R2.s, .slice a9 R2.l.length c9, .int .i64 R2.fr, .int .i64 R2.b] 31)) = W9 at *
          cases hR : R1.ok with
          | false =>
            rw [hR, Bool.false_and] at HM
            go_wp2
            go_ret
            exact ⟨by rw [HM.out]; rfl, T9.old⟩
          | true =>
            rw [hR, Bool.true_and] at HM
            go_wp2
            go_ret
            exact ⟨by rw [HM.out]; rfl, T9.old⟩
        · have B10 : Below W8.heap.size W8 (((((w9.setCell ⟨W8.heap.size, 0, none⟩ (.int .i64 R2.q)).setCell ⟨W8.heap.size, 1, none⟩ (.int .i64 R2.s)).setCell ⟨W8.heap.size, 2, none⟩ (.slice a9 R2.l.length c9)).setCell ⟨W8.heap.size, 3, none⟩ (.int .i64 R2.fr)).setCell ⟨W8.heap.size, 4, none⟩ (.int .i64 R2.b)) := by
            iterate 5 (refine Below.setCell ?_ (by exact Nat.le_refl _) _)
            exact B9
          have T9 := T8.below B10
          clear n0 n1 hb9 ho9 B9 B10 P7 P7c d0 d1 d2 d3 d4 df z0 z1 z2 z3 z4 KD BA KA sA PA
          generalize (((((w9.setCell ⟨W8.heap.size, 0, none⟩ (.int .i64 R2.q)).setCell ⟨W8.heap.size, 1, none⟩ (.int .i64 R2.s)).setCell ⟨W8.heap.size, 2, none⟩ (.slice a9 R2.l.length c9)).setCell ⟨W8.heap.size, 3, none⟩ (.int .i64 R2.fr)).setCell ⟨W8.heap.size, 4, none⟩ (.int .i64 R2.b)) = W9 at *
          cases hR : R1.ok with
          | false =>
            rw [hR, Bool.false_and] at HM
            go_wp2
            go_ret
            exact ⟨by rw [HM.out]; rfl, T9.old⟩
          | true =>
            rw [hR, Bool.true_and] at HM
            go_wp2
            go_ret
            exact ⟨by rw [HM.out]; rfl, T9.old⟩
end Go.Proofs.YtlcblcoodabpeaaDoor
