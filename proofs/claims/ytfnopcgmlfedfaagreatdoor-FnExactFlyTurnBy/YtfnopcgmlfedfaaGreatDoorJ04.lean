/- Joined texts: MaySpec, TubeI, SpanSpec2, TubeSp, BoxOwn, TurnS, OnceParts, OnceI, IntKey, LooksMap, TurnW, TurnO, TurnM, TurnA, IntCells, TurnK, TurnBy, SearchI, TurnL, SeenImpl, FlySeenI, MayImpl, TurnI. -/
import Derived.Deep.RegionHeld3
import Derived.Maps.AppendAt
import Derived.WalkKit
import Derived.Defers
import Derived.Laws.Pointers
import Derived.Laws.LoneSync
import Derived.RegionTactic
import Derived.RegionCalls
import Derived.Laws.NewBlocks
import Derived.Test.YtfnopcgmlfedfaaGreatDoorRows
import Derived.Test.YtfnopcgmlfedfaaGreatDoorJ03
import Derived.Test.YtfnopcgmlfedfaaGreatDoorSpanSaid
import Derived.Test.YtfnopcgmlfedfaaGreatDoorStepInfo
import Derived.Test.YtfnopcgmlfedfaaGreatDoorBoxP
import Derived.Test.YtfnopcgmlfedfaaGreatDoorOwnMore
import Derived.Test.YtfnopcgmlfedfaaGreatDoorGrownMore
import Derived.Test.YtfnopcgmlfedfaaGreatDoorSpanSpec
import Derived.Test.YtfnopcgmlfedfaaGreatDoorSpec
import Derived.Test.YtfnopcgmlfedfaaGreatDoorData
import Derived.Test.YtfnopcgmlfedfaaGreatDoorPathKit
import Derived.Test.YtfnopcgmlfedfaaGreatDoorSpanLeaf
import Derived.Test.YtfnopcgmlfedfaaGreatDoorIntsAt
import Derived.Test.YtfnopcgmlfedfaaGreatDoorHands
import Derived.Test.YtfnopcgmlfedfaaGreatDoorSomeLeft
import Derived.Test.YtfnopcgmlfedfaaGreatDoorCls
namespace Go.Proofs.YtfnopcgmlfedfaaGreatDoor
open Go.RowKit

theorem spanCells_both {xs : List (Int × Int)} {i : Nat} {x : Int × Int} (h : xs[i]? = some x) : (spanCells xs)[i * 2]? = some (.int .i64 x.1) ∧ (spanCells xs)[i * 2 + 1]? = some (.int .i64 x.2) := spanCells_get xs i x h

set_option maxHeartbeats 8000000 in
set_option maxRecDepth 20000 in
theorem flyMayS_any (q s fr b : Int) (a : Option Addr) (b0 o cap : Nat) (l : List Stp) (q' s' fr' b' : Int) (a' : Option Addr) (b0' o' cap' : Nat) (l' : List Stp) (st nw : Int) (w : World) (hl : l.length ≤ 1048576) (hl' : l'.length ≤ 1048576) (hs : StepsAt w a b0 o l) (hs' : StepsAt w a' b0' o' l') (hcap : l.length ≤ cap) (hcap' : l'.length ≤ cap') :
    Calls Tryz.prog 27 #[.agg #[.int .i64 q, .int .i64 s, .slice a l.length cap, .int .i64 fr, .int .i64 b], .agg #[.int .i64 q', .int .i64 s', .slice a' l'.length cap', .int .i64 fr', .int .i64 b'], .int .i64 st, .int .i64 nw] w
      fun e w' => e = .returned (.bool (mayB q s fr b l q' s' fr' b' l' st nw)) ∧ Below w.heap.size w w' := by
  have T1 := TwoP.new w q s fr b (.slice a l.length cap) q' s' fr' b' (.slice a' l'.length cap')
  have hsA := fun W (hW : StepsAt W a b0 o l) => flySeenS_any q s fr b st nw a b0 o cap l W hl hW hcap
  have hA1 := @seenA_ok q s fr b l st nw
  obtain ⟨n, hn⟩ : ∃ n, sharedN q s l q' s' l' = n := ⟨_, rfl⟩
  have HM : Hid (mayB q s fr b l q' s' fr' b' l' st nw = (decide (st < (n : Int)) && (seenA q s fr b l st nw).ok && ((restA q' s' fr' b' l' st (firstOf (seenA q s fr b l st nw)).1 nw).ok && (restA q' s' fr' b' l' st (firstOf (seenA q s fr b l st nw)).2 nw).ok))) := by
    show _ = _; unfold mayB; rw [hn]
  have hSh := fun W (hW : StepsAt W a b0 o l) (hW' : StepsAt W a' b0' o' l') => sharedS_any q s fr b a b0 o cap l q' s' fr' b' a' b0' o' cap' l' W hl hl' hW hW'
  rw [hn] at hSh
  clear hn
  generalize seenA q s fr b l st nw = A at hsA hA1 HM
  go_enter Tryz.func27, Tryz.ntmps27
  go_wp2_with fail
  refine (hsA _ (hs.below T1.old hs.lt)).mono ?_
  rintro e w2 ⟨v2, rfl, ho2, hb2⟩
  obtain ⟨a2, j2, c2, hv2, hs2⟩ := steps_of ho2
  subst hv2
  have T2 := T1.below hb2
  have al : Below w2.heap.size w2 (w2.alloc (.cells #[.int .i64 A.q, .int .i64 A.s, .slice a2 A.l.length c2, .int .i64 A.fr, .int .i64 A.b] 32)) := (Below.refl _ _).alloc (Nat.le_refl _) _
  have X2 := PathAt.new w2 A.q A.s A.fr A.b (.slice a2 A.l.length c2)
  have T3 := T2.below al
  have hs3 := hs2.alloc (.cells #[.int .i64 A.q, .int .i64 A.s, .slice a2 A.l.length c2, .int .i64 A.fr, .int .i64 A.b] 32)
  clear T1 T2 hb2 hsA ho2 hs2 al
  cases hok : A.ok with
  | false =>
    rw [hok, Bool.and_false, Bool.false_and] at HM
    clear X2 hSh
    go_wp2
    go_ret
    exact ⟨by rw [HM.out]; rfl, T3.old⟩
  | true =>
    rw [hok, Bool.and_true] at HM
    obtain ⟨⟨z0, z1, z2, z3, z4⟩, _⟩ := T3.pb.cells
    obtain ⟨⟨p0, p1, p2, p3, p4⟩, _⟩ := T3.pa.cells
    go_wp2_with fail
    refine (pathS_any q' s' fr' b' a' b0' o' cap' l' _ hl' (hs'.below T3.old hs'.lt)).mono ?_
    rintro e w4 ⟨rfl, hb4⟩
    have T4 := T3.below hb4
    have X4 := X2.keep hb4 X2.lt
    have hs4 := hs3.below hb4 hs3.lt
    clear z0 z1 z2 z3 z4 p0 p1 p2 p3 p4 T3 X2 hs3 hb4
    cases hp' : pathB q' s' fr' b' l' with
    | false =>
      have HF : Hid (mayB q s fr b l q' s' fr' b' l' st nw = false) := by show _ = _; rw [HM.out, restA_path hp', Bool.false_and, Bool.and_false]
      clear hSh
      go_wp2
      go_ret
      exact ⟨by rw [HF.out]; rfl, T4.old⟩
    | true =>
      obtain ⟨⟨z0, z1, z2, z3, z4⟩, _⟩ := T4.pb.cells
      obtain ⟨⟨p0, p1, p2, p3, p4⟩, _⟩ := T4.pa.cells
      go_wp2_with fail
      refine (hSh _ (hs.below T4.old hs.lt) (hs'.below T4.old hs'.lt)).mono ?_
      rintro e w5 ⟨rfl, hb5⟩
      have T5 := T4.below hb5
      have X5 := X4.keep hb5 X4.lt
      have hs5 := hs4.below hb5 hs4.lt
      clear z0 z1 z2 z3 z4 p0 p1 p2 p3 p4 T4 X4 hs4 hb5 hSh hp'
      by_cases h1 : (n : Int) ≤ st
      · have HF : Hid (mayB q s fr b l q' s' fr' b' l' st nw = false) := by show _ = _; rw [HM.out, show decide (st < (n : Int)) = false by simp; omega, Bool.false_and]
        go_wp2
        go_ret
        exact ⟨by rw [HF.out]; rfl, T5.old⟩
      rw [show decide (st < (n : Int)) = true by simp; omega, Bool.true_and] at HM
      obtain ⟨hpA, hsb⟩ := hA1 hok
      have hAl := path_len hpA
      have hsl : (spansL A.q A.s A.fr A.b A.l).length = A.l.length + 1 := by unfold spansL; rw [if_pos hsb]; simp
      have hC := spansS_wide A.q A.s A.fr A.b a2 j2 0 c2 A.l w5 hs5 (Wide.of hpA)
      rw [hsl, hsb] at hC
      have hf1 := spans_first hsb
      obtain ⟨x, hx⟩ : ∃ x, firstOf A = x := ⟨_, rfl⟩
      rw [hx] at HM
      unfold firstOf at hx
      rw [hx] at hf1
      obtain ⟨⟨y0, y1, y2, y3, y4⟩, _⟩ := X5.cells
      go_wp2_with fail
      refine hC.mono ?_
      rintro e w6 ⟨v6, rfl, ho6, hb6⟩
      obtain ⟨g3, k3, rfl, _, hg3⟩ := owns_some ho6 (by omega)
      have r0 := (ho6.cellAt 0 (by omega)).trans (spanCells_both hf1).1
      have r1 := (ho6.cellAt 1 (by omega)).trans (spanCells_both hf1).2
      have T6 := T5.below hb6
      clear y0 y1 y2 y3 y4 hC hb6 T5 X5 hs5 ho6 hx hf1 hsl hpA hsb hA1 hok
      obtain ⟨⟨z0, z1, z2, z3, z4⟩, _⟩ := T6.pb.cells
      have zX : w.heap.size + 1 < w6.heap.size := T6.pb.lt
      have hs6 : StepsAt w6 a' b0' o' l' := hs'.below T6.old hs'.lt
      have L1 := fun W (hW : StepsAt W a' b0' o' l') => flyRestS_any q' s' fr' b' st x.1 nw a' b0' o' cap' l' W hl' hW hcap'
      have KD : StepsAt w6.drew a' b0' o' l' := hs6.below (Below.refl w6.heap.size w6).drew hs6.lt
      have BA : Below w6.heap.size w6 (w6.alloc (.cells #[.int .i64 0, .int .i64 0, .slice none 0 0, .int .i64 0, .int .i64 0] 32)).drew := ((Below.refl w6.heap.size w6).alloc (Nat.le_refl _) _).drew
      have KA : StepsAt (w6.alloc (.cells #[.int .i64 0, .int .i64 0, .slice none 0 0, .int .i64 0, .int .i64 0] 32)).drew a' b0' o' l' := hs6.below BA hs6.lt
      have sA : (w6.alloc (.cells #[.int .i64 0, .int .i64 0, .slice none 0 0, .int .i64 0, .int .i64 0] 32)).drew.heap.size = w6.heap.size + 1 := World.size_alloc _ _
      have PA : PathAt (w6.alloc (.cells #[.int .i64 0, .int .i64 0, .slice none 0 0, .int .i64 0, .int .i64 0] 32)).drew w6.heap.size 0 0 0 0 (.slice none 0 0) := (PathAt.new w6 0 0 0 0 (.slice none 0 0)).keep (Below.refl (w6.heap.size + 1) _).drew (by omega)
      have L2 := fun W (hW : StepsAt W a' b0' o' l') => flyRestS_any q' s' fr' b' st x.2 nw a' b0' o' cap' l' W hl' hW hcap'
      have l0 : (0 : Int) < ((A.l.length + 1 : Nat) : Int) := by omega
      generalize restA q' s' fr' b' l' st x.1 nw = R1 at L1 HM
      generalize restA q' s' fr' b' l' st x.2 nw = R2 at L2 HM
      go_wp2
      go_region_held3 (fun w' => w'.cell? ⟨w.heap.size + 1, 0, none⟩ = some (.int .i64 q') ∧ w'.cell? ⟨w.heap.size + 1, 1, none⟩ = some (.int .i64 s') ∧ w'.cell? ⟨w.heap.size + 1, 2, none⟩ = some (.slice a' l'.length cap') ∧ w'.cell? ⟨w.heap.size + 1, 3, none⟩ = some (.int .i64 fr') ∧ w'.cell? ⟨w.heap.size + 1, 4, none⟩ = some (.int .i64 b') ∧ w'.cell? ⟨g3, 0, none⟩ = some (.int .i64 x.1))
        (first | (simp [go_sem, *]; done) | (simp [go_sem, World.cell?_alloc_lt, *]; done))
        (first
          | (go_at_call 39; refine (L1 _ KD).mono ?_; rintro e w7 ⟨v7, rfl, ho7, hb7⟩; obtain ⟨a7, j7, c7, hv7, _⟩ := steps_of ho7; subst hv7; have n0 : ∀ j, w7.cell? ⟨w.heap.size + 1, j, none⟩ = w6.cell? ⟨w.heap.size + 1, j, none⟩ := fun j => hb7.cell (p := ⟨w.heap.size + 1, j, none⟩) zX; have n1 : ∀ j, w7.cell? ⟨g3, j, none⟩ = w6.cell? ⟨g3, j, none⟩ := fun j => hb7.cell (p := ⟨g3, j, none⟩) hg3; have zX7 : w.heap.size + 1 < w7.heap.size := Nat.lt_of_lt_of_le zX hb7.size; have zg7 : g3 < w7.heap.size := Nat.lt_of_lt_of_le hg3 hb7.size; have B7 : Below w6.heap.size w6 w7 := ((Below.refl w6.heap.size w6).drew).trans hb7)
          | (go_at_call 39; refine (L1 _ KA).mono ?_; rintro e w7 ⟨v7, rfl, ho7, hb7⟩; obtain ⟨a7, j7, c7, hv7, _⟩ := steps_of ho7; subst hv7; have B7 : Below w6.heap.size w6 w7 := BA.trans (hb7.mono (by rw [sA]; omega)); have n0 : ∀ j, w7.cell? ⟨w.heap.size + 1, j, none⟩ = w6.cell? ⟨w.heap.size + 1, j, none⟩ := fun j => B7.cell (p := ⟨w.heap.size + 1, j, none⟩) zX; have n1 : ∀ j, w7.cell? ⟨g3, j, none⟩ = w6.cell? ⟨g3, j, none⟩ := fun j => B7.cell (p := ⟨g3, j, none⟩) hg3; have P7 := PA.keep hb7 (by rw [sA]; omega); have P7c := P7.cells; have d0 := P7c.1.1; have d1 := P7c.1.2.1; have d2 := P7c.1.2.2.1; have d3 := P7c.1.2.2.2.1; have d4 := P7c.1.2.2.2.2; have df := P7c.2; have gX : w6.heap.size ≠ w.heap.size + 1 := (by omega); have gG : w6.heap.size ≠ g3 := (by omega)))
      · have B8 : Below w6.heap.size w6 (w7.alloc (.cells #[.int .i64 R1.q, .int .i64 R1.s, .slice a7 R1.l.length c7, .int .i64 R1.fr, .int .i64 R1.b] 32)) := B7.alloc B7.size _
        clear n0 n1 zX7 zg7 hb7 ho7 B7
        generalize (w7.alloc (.cells #[.int .i64 R1.q, .int .i64 R1.s, .slice a7 R1.l.length c7, .int .i64 R1.fr, .int .i64 R1.b] 32)) = W8 at *
        have T8 := T6.below B8
        have r8 : W8.cell? ⟨g3, 1, none⟩ = some (.int .i64 x.2) := (B8.cell (p := ⟨g3, 1, none⟩) hg3).trans r1
        have hg8 : g3 < W8.heap.size := Nat.lt_of_lt_of_le hg3 B8.size
        have hs8 : StepsAt W8 a' b0' o' l' := hs'.below T8.old hs'.lt
        have zX8 : w.heap.size + 1 < W8.heap.size := T8.pb.lt
        clear B8 r0 r1 z0 z1 z2 z3 z4 hs6 KD BA KA sA PA zX T6 L1 hg3
        obtain ⟨⟨z0, z1, z2, z3, z4⟩, _⟩ := T8.pb.cells
        have KD : StepsAt W8.drew a' b0' o' l' := hs8.below (Below.refl W8.heap.size W8).drew hs8.lt
        have BA : Below W8.heap.size W8 (W8.alloc (.cells #[.int .i64 0, .int .i64 0, .slice none 0 0, .int .i64 0, .int .i64 0] 32)).drew := ((Below.refl W8.heap.size W8).alloc (Nat.le_refl _) _).drew
        have KA : StepsAt (W8.alloc (.cells #[.int .i64 0, .int .i64 0, .slice none 0 0, .int .i64 0, .int .i64 0] 32)).drew a' b0' o' l' := hs8.below BA hs8.lt
        have sA : (W8.alloc (.cells #[.int .i64 0, .int .i64 0, .slice none 0 0, .int .i64 0, .int .i64 0] 32)).drew.heap.size = W8.heap.size + 1 := World.size_alloc _ _
        have PA : PathAt (W8.alloc (.cells #[.int .i64 0, .int .i64 0, .slice none 0 0, .int .i64 0, .int .i64 0] 32)).drew W8.heap.size 0 0 0 0 (.slice none 0 0) := (PathAt.new W8 0 0 0 0 (.slice none 0 0)).keep (Below.refl (W8.heap.size + 1) _).drew (by omega)
        go_wp2
        go_region_held3 (fun w' => w'.cell? ⟨w.heap.size + 1, 0, none⟩ = some (.int .i64 q') ∧ w'.cell? ⟨w.heap.size + 1, 1, none⟩ = some (.int .i64 s') ∧ w'.cell? ⟨w.heap.size + 1, 2, none⟩ = some (.slice a' l'.length cap') ∧ w'.cell? ⟨w.heap.size + 1, 3, none⟩ = some (.int .i64 fr') ∧ w'.cell? ⟨w.heap.size + 1, 4, none⟩ = some (.int .i64 b') ∧ w'.cell? ⟨g3, 1, none⟩ = some (.int .i64 x.2))
          (first | (simp [go_sem, *]; done) | (simp [go_sem, World.cell?_alloc_lt, *]; done))
          (first
            | (go_at_call 39; refine (L2 _ KD).mono ?_; rintro e w9 ⟨v9, rfl, ho9, hb9⟩; obtain ⟨a9, j9, c9, hv9, _⟩ := steps_of ho9; subst hv9; have n0 : ∀ j, w9.cell? ⟨w.heap.size + 1, j, none⟩ = W8.cell? ⟨w.heap.size + 1, j, none⟩ := fun j => hb9.cell (p := ⟨w.heap.size + 1, j, none⟩) zX8; have n1 : ∀ j, w9.cell? ⟨g3, j, none⟩ = W8.cell? ⟨g3, j, none⟩ := fun j => hb9.cell (p := ⟨g3, j, none⟩) hg8; have zX7 : w.heap.size + 1 < w9.heap.size := Nat.lt_of_lt_of_le zX8 hb9.size; have zg7 : g3 < w9.heap.size := Nat.lt_of_lt_of_le hg8 hb9.size; have B9 : Below W8.heap.size W8 w9 := ((Below.refl W8.heap.size W8).drew).trans hb9)
            | (go_at_call 39; refine (L2 _ KA).mono ?_; rintro e w9 ⟨v9, rfl, ho9, hb9⟩; obtain ⟨a9, j9, c9, hv9, _⟩ := steps_of ho9; subst hv9; have B9 : Below W8.heap.size W8 w9 := BA.trans (hb9.mono (by rw [sA]; omega)); have n0 : ∀ j, w9.cell? ⟨w.heap.size + 1, j, none⟩ = W8.cell? ⟨w.heap.size + 1, j, none⟩ := fun j => B9.cell (p := ⟨w.heap.size + 1, j, none⟩) zX8; have n1 : ∀ j, w9.cell? ⟨g3, j, none⟩ = W8.cell? ⟨g3, j, none⟩ := fun j => B9.cell (p := ⟨g3, j, none⟩) hg8; have P7 := PA.keep hb9 (by rw [sA]; omega); have P7c := P7.cells; have d0 := P7c.1.1; have d1 := P7c.1.2.1; have d2 := P7c.1.2.2.1; have d3 := P7c.1.2.2.2.1; have d4 := P7c.1.2.2.2.2; have df := P7c.2; have gX : W8.heap.size ≠ w.heap.size + 1 := (by omega); have gG : W8.heap.size ≠ g3 := (by omega)))
        · have B10 : Below W8.heap.size W8 (w9.alloc (.cells #[.int .i64 R2.q, .int .i64 R2.s, .slice a9 R2.l.length c9, .int .i64 R2.fr, .int .i64 R2.b] 32)) := B9.alloc B9.size _
          have T9 := T8.below B10
          clear n0 n1 zX7 zg7 hb9 ho9 B9 B10 z0 z1 z2 z3 z4 KD BA KA sA PA
          generalize (w9.alloc (.cells #[.int .i64 R2.q, .int .i64 R2.s, .slice a9 R2.l.length c9, .int .i64 R2.fr, .int .i64 R2.b] 32)) = W9 at *
          cases hR : R1.ok with
          | false =>
            rw [hR, Bool.false_and] at HM
            go_wp2
            go_ret
            exact ⟨by rw [HM.out]; rfl, T9.old⟩
          | true =>
            rw [hR, Bool.true_and] at HM
            go_wp2
            go_ret
            exact ⟨by rw [HM.out]; rfl, T9.old⟩
        · have B10 : Below W8.heap.size W8 (((((w9.setCell ⟨W8.heap.size, 0, none⟩ (.int .i64 R2.q)).setCell ⟨W8.heap.size, 1, none⟩ (.int .i64 R2.s)).setCell ⟨W8.heap.size, 2, none⟩ (.slice a9 R2.l.length c9)).setCell ⟨W8.heap.size, 3, none⟩ (.int .i64 R2.fr)).setCell ⟨W8.heap.size, 4, none⟩ (.int .i64 R2.b)) := by
            iterate 5 (refine Below.setCell ?_ (by exact Nat.le_refl _) _)
            exact B9
          have T9 := T8.below B10
          clear n0 n1 hb9 ho9 B9 B10 P7 P7c d0 d1 d2 d3 d4 df z0 z1 z2 z3 z4 KD BA KA sA PA
          generalize (((((w9.setCell ⟨W8.heap.size, 0, none⟩ (.int .i64 R2.q)).setCell ⟨W8.heap.size, 1, none⟩ (.int .i64 R2.s)).setCell ⟨W8.heap.size, 2, none⟩ (.slice a9 R2.l.length c9)).setCell ⟨W8.heap.size, 3, none⟩ (.int .i64 R2.fr)).setCell ⟨W8.heap.size, 4, none⟩ (.int .i64 R2.b)) = W9 at *
          cases hR : R1.ok with
          | false =>
            rw [hR, Bool.false_and] at HM
            go_wp2
            go_ret
            exact ⟨by rw [HM.out]; rfl, T9.old⟩
          | true =>
            rw [hR, Bool.true_and] at HM
            go_wp2
            go_ret
            exact ⟨by rw [HM.out]; rfl, T9.old⟩
      · have B8 : Below w6.heap.size w6 (((((w7.setCell ⟨w6.heap.size, 0, none⟩ (.int .i64 R1.q)).setCell ⟨w6.heap.size, 1, none⟩ (.int .i64 R1.s)).setCell ⟨w6.heap.size, 2, none⟩ (.slice a7 R1.l.length c7)).setCell ⟨w6.heap.size, 3, none⟩ (.int .i64 R1.fr)).setCell ⟨w6.heap.size, 4, none⟩ (.int .i64 R1.b)) := by
          iterate 5 (refine Below.setCell ?_ (by exact Nat.le_refl _) _)
          exact B7
        clear n0 n1 hb7 ho7 B7 P7 P7c d0 d1 d2 d3 d4 df gX gG
        generalize (((((w7.setCell ⟨w6.heap.size, 0, none⟩ (.int .i64 R1.q)).setCell ⟨w6.heap.size, 1, none⟩ (.int .i64 R1.s)).setCell ⟨w6.heap.size, 2, none⟩ (.slice a7 R1.l.length c7)).setCell ⟨w6.heap.size, 3, none⟩ (.int .i64 R1.fr)).setCell ⟨w6.heap.size, 4, none⟩ (.int .i64 R1.b)) = W8 at *
        have T8 := T6.below B8
        have r8 : W8.cell? ⟨g3, 1, none⟩ = some (.int .i64 x.2) := (B8.cell (p := ⟨g3, 1, none⟩) hg3).trans r1
        have hg8 : g3 < W8.heap.size := Nat.lt_of_lt_of_le hg3 B8.size
        have hs8 : StepsAt W8 a' b0' o' l' := hs'.below T8.old hs'.lt
        have zX8 : w.heap.size + 1 < W8.heap.size := T8.pb.lt
        clear B8 r0 r1 z0 z1 z2 z3 z4 hs6 KD BA KA sA PA zX T6 L1 hg3
        obtain ⟨⟨z0, z1, z2, z3, z4⟩, _⟩ := T8.pb.cells
        have KD : StepsAt W8.drew a' b0' o' l' := hs8.below (Below.refl W8.heap.size W8).drew hs8.lt
        have BA : Below W8.heap.size W8 (W8.alloc (.cells #[.int .i64 0, .int .i64 0, .slice none 0 0, .int .i64 0, .int .i64 0] 32)).drew := ((Below.refl W8.heap.size W8).alloc (Nat.le_refl _) _).drew
        have KA : StepsAt (W8.alloc (.cells #[.int .i64 0, .int .i64 0, .slice none 0 0, .int .i64 0, .int .i64 0] 32)).drew a' b0' o' l' := hs8.below BA hs8.lt
        have sA : (W8.alloc (.cells #[.int .i64 0, .int .i64 0, .slice none 0 0, .int .i64 0, .int .i64 0] 32)).drew.heap.size = W8.heap.size + 1 := World.size_alloc _ _
        have PA : PathAt (W8.alloc (.cells #[.int .i64 0, .int .i64 0, .slice none 0 0, .int .i64 0, .int .i64 0] 32)).drew W8.heap.size 0 0 0 0 (.slice none 0 0) := (PathAt.new W8 0 0 0 0 (.slice none 0 0)).keep (Below.refl (W8.heap.size + 1) _).drew (by omega)
        go_wp2
        go_region_held3 (fun w' => w'.cell? ⟨w.heap.size + 1, 0, none⟩ = some (.int .i64 q') ∧ w'.cell? ⟨w.heap.size + 1, 1, none⟩ = some (.int .i64 s') ∧ w'.cell? ⟨w.heap.size + 1, 2, none⟩ = some (.slice a' l'.length cap') ∧ w'.cell? ⟨w.heap.size + 1, 3, none⟩ = some (.int .i64 fr') ∧ w'.cell? ⟨w.heap.size + 1, 4, none⟩ = some (.int .i64 b') ∧ w'.cell? ⟨g3, 1, none⟩ = some (.int .i64 x.2))
          (first | (simp [go_sem, *]; done) | (simp [go_sem, World.cell?_alloc_lt, *]; done))
          (first
            | (go_at_call 39; refine (L2 _ KD).mono ?_; rintro e w9 ⟨v9, rfl, ho9, hb9⟩; obtain ⟨a9, j9, c9, hv9, _⟩ := steps_of ho9; subst hv9; have n0 : ∀ j, w9.cell? ⟨w.heap.size + 1, j, none⟩ = W8.cell? ⟨w.heap.size + 1, j, none⟩ := fun j => hb9.cell (p := ⟨w.heap.size + 1, j, none⟩) zX8; have n1 : ∀ j, w9.cell? ⟨g3, j, none⟩ = W8.cell? ⟨g3, j, none⟩ := fun j => hb9.cell (p := ⟨g3, j, none⟩) hg8; have zX7 : w.heap.size + 1 < w9.heap.size := Nat.lt_of_lt_of_le zX8 hb9.size; have zg7 : g3 < w9.heap.size := Nat.lt_of_lt_of_le hg8 hb9.size; have B9 : Below W8.heap.size W8 w9 := ((Below.refl W8.heap.size W8).drew).trans hb9)
            | (go_at_call 39; refine (L2 _ KA).mono ?_; rintro e w9 ⟨v9, rfl, ho9, hb9⟩; obtain ⟨a9, j9, c9, hv9, _⟩ := steps_of ho9; subst hv9; have B9 : Below W8.heap.size W8 w9 := BA.trans (hb9.mono (by rw [sA]; omega)); have n0 : ∀ j, w9.cell? ⟨w.heap.size + 1, j, none⟩ = W8.cell? ⟨w.heap.size + 1, j, none⟩ := fun j => B9.cell (p := ⟨w.heap.size + 1, j, none⟩) zX8; have n1 : ∀ j, w9.cell? ⟨g3, j, none⟩ = W8.cell? ⟨g3, j, none⟩ := fun j => B9.cell (p := ⟨g3, j, none⟩) hg8; have P7 := PA.keep hb9 (by rw [sA]; omega); have P7c := P7.cells; have d0 := P7c.1.1; have d1 := P7c.1.2.1; have d2 := P7c.1.2.2.1; have d3 := P7c.1.2.2.2.1; have d4 := P7c.1.2.2.2.2; have df := P7c.2; have gX : W8.heap.size ≠ w.heap.size + 1 := (by omega); have gG : W8.heap.size ≠ g3 := (by omega)))
        · have B10 : Below W8.heap.size W8 (w9.alloc (.cells #[.int .i64 R2.q, .int .i64 R2.s, .slice a9 R2.l.length c9, .int .i64 R2.fr, .int .i64 R2.b] 32)) := B9.alloc B9.size _
          have T9 := T8.below B10
          clear n0 n1 zX7 zg7 hb9 ho9 B9 B10 z0 z1 z2 z3 z4 KD BA KA sA PA
          generalize (w9.alloc (.cells #[.int .i64 R2.q, .int .i64 R2.s, .slice a9 R2.l.length c9, .int .i64 R2.fr, .int .i64 R2.b] 32)) = W9 at *
          cases hR : R1.ok with
          | false =>
            rw [hR, Bool.false_and] at HM
            go_wp2
            go_ret
            exact ⟨by rw [HM.out]; rfl, T9.old⟩
          | true =>
            rw [hR, Bool.true_and] at HM
            go_wp2
            go_ret
            exact ⟨by rw [HM.out]; rfl, T9.old⟩
        · have B10 : Below W8.heap.size W8 (((((w9.setCell ⟨W8.heap.size, 0, none⟩ (.int .i64 R2.q)).setCell ⟨W8.heap.size, 1, none⟩ (.int .i64 R2.s)).setCell ⟨W8.heap.size, 2, none⟩ (.slice a9 R2.l.length c9)).setCell ⟨W8.heap.size, 3, none⟩ (.int .i64 R2.fr)).setCell ⟨W8.heap.size, 4, none⟩ (.int .i64 R2.b)) := by
            iterate 5 (refine Below.setCell ?_ (by exact Nat.le_refl _) _)
            exact B9
          have T9 := T8.below B10
          clear n0 n1 hb9 ho9 B9 B10 P7 P7c d0 d1 d2 d3 d4 df z0 z1 z2 z3 z4 KD BA KA sA PA
          generalize (((((w9.setCell ⟨W8.heap.size, 0, none⟩ (.int .i64 R2.q)).setCell ⟨W8.heap.size, 1, none⟩ (.int .i64 R2.s)).setCell ⟨W8.heap.size, 2, none⟩ (.slice a9 R2.l.length c9)).setCell ⟨W8.heap.size, 3, none⟩ (.int .i64 R2.fr)).setCell ⟨W8.heap.size, 4, none⟩ (.int .i64 R2.b)) = W9 at *
          cases hR : R1.ok with
          | false =>
            rw [hR, Bool.false_and] at HM
            go_wp2
            go_ret
            exact ⟨by rw [HM.out]; rfl, T9.old⟩
          | true =>
            rw [hR, Bool.true_and] at HM
            go_wp2
            go_ret
            exact ⟨by rw [HM.out]; rfl, T9.old⟩
end Go.Proofs.YtfnopcgmlfedfaaGreatDoor

namespace Go.Proofs.YtfnopcgmlfedfaaGreatDoor
open Go.RowKit

theorem fbox_info : (Tryz.prog.info? 76).map (fun i => (i.zero, i.size, i.bytes)) = some (some (.agg #[.int .i64 0, .int .i64 0, .int .i64 0, .int .i64 0, .int .i64 0, .int .i64 0]), 6, 48) := by kernel_rfl
theorem rowC_snocF (l : List Bx) (s : Bx) : rowC (l ++ [s]) = rowC l ++ s.cells := by rw [rowC_append, rowC_one]
theorem six_newF (w : World) (s : Bx) (t : TypeId) : ∀ (j : Nat) (u : Value), s.cells[j]? = some u → (w.alloc (.cells #[.int .i64 s.x, .int .i64 s.y, .int .i64 s.lo, .int .i64 s.hi, .int .i64 s.in_, .int .i64 s.out] t)).cell? ((⟨w.heap.size, 0, none⟩ : Addr).add j) = some u := by
  intro j u hj
  match j, hj with
  | 0, hj => simp at hj; subst hj; simp [Addr.add, go_sem]
  | 1, hj => simp at hj; subst hj; simp [Addr.add, go_sem]
  | 2, hj => simp at hj; subst hj; simp [Addr.add, go_sem]
  | 3, hj => simp at hj; subst hj; simp [Addr.add, go_sem]
  | 4, hj => simp at hj; subst hj; simp [Addr.add, go_sem]
  | 5, hj => simp at hj; subst hj; simp [Addr.add, go_sem]

/-- What lies while the tube is laid: all that lay, the spans, the boxes up to now. -/
structure TbW (w wr : World) (N : Nat) (vs : Value) (F : List (Int × Int)) (v : Value) (m : List Bx) : Prop where
  old : Below w.heap.size w wr
  lt : N ≤ wr.heap.size
  sp : wr.ownsRow w.heap.size 66 2 vs F.length (spanCells F)
  spN : ∀ k, vs.ownBlock = some k → k < N
  own : wr.ownsRow N 76 6 v m.length (rowC m)
section
variable {w wr w' : World} {N : Nat} {vs v : Value} {F : List (Int × Int)} {m : List Bx}
theorem TbW.keep (h : TbW w wr N vs F v m) (hb : Below wr.heap.size wr w') : TbW w w' N vs F v m :=
  ⟨h.old.trans (hb.mono h.old.size), Nat.le_trans h.lt hb.size, owns_below h.sp hb, h.spN, owns_below h.own hb⟩
theorem TbW.push {v7 : Value} {t : Bx} (h : TbW w wr N vs F v m) (hN : w.heap.size ≤ N) (hg : wr.grownBy w' v.ownBlock) (ho : w'.ownsRow N 76 6 v7 (m.length + 1) (rowC m ++ t.cells)) : TbW w w' N vs F v7 (m ++ [t]) := by
  have hbase := owns_base h.own
  refine ⟨h.old.grown hg h.old.size (fun k e => by have := hbase k e; omega), Nat.le_trans h.lt hg.size, ?_, h.spN, ?_⟩
  · refine h.sp.kept hg ?_
    cases e : vs.ownBlock with
    | none => exact Or.inl rfl
    | some k => exact Or.inr (fun e2 => by have := h.spN k e; have := hbase k e2.symm; omega)
  · rw [rowC_snocF, List.length_append]
    exact ho
end
theorem spanCells_two' {F : List (Int × Int)} {k : Nat} (h : k < F.length) : (spanCells F)[k * 2]? = some (.int .i64 (F.getD k (0, 0)).1) ∧ (spanCells F)[k * 2 + 1]? = some (.int .i64 (F.getD k (0, 0)).2) :=
  spanCells_get F k _ (by rw [List.getD_eq_getElem?_getD, List.getElem?_eq_getElem h]; rfl)
theorem flyL_len {q s fr b : Int} {l : List Stp} (h : flyB q s fr b l = true) : (flyL q s fr b l).length = l.length + 1 := by
  unfold flyB at h
  obtain ⟨h1, h2⟩ := Bool.and_eq_true_iff.1 h
  unfold flyL spansL
  rw [if_pos h1, if_pos h2]
  simp
theorem fly_len {q s fr b : Int} {l : List Stp} (h : flyB q s fr b l = true) : l.length ≤ 40 := by
  unfold flyB at h
  have := path_len (Bool.and_eq_true_iff.1 h).1
  omega

set_option maxRecDepth 20000 in
set_option maxHeartbeats 4000000 in
theorem flyTubeI_any (hI : SpansSaid) (q s fr b : Int) (a : Option Addr) (b0 o cap : Nat) (l : List Stp) (w : World) (hl : l.length ≤ 1048576) (hs : StepsAt w a b0 o l) :
    Calls Tryz.prog 16 #[.agg #[.int .i64 q, .int .i64 s, .slice a l.length cap, .int .i64 fr, .int .i64 b]] w
      fun e w' => ∃ v, e = .returned v ∧ w'.ownsRow w.heap.size 76 6 v (tubeL q s fr b l).length (rowC (tubeL q s fr b l)) ∧ Below w.heap.size w w' := by
  obtain ⟨i0, hi, hz0, hz1, hz2⟩ := info_parts fbox_info
  have hr := fly_range q s fr b l
  have P0 := BoxP.new w q s fr b (.slice a l.length cap) 32
  go_enter Tryz.func16, Tryz.ntmps16
  go_wp2_with fail
  refine (hI _ _ _ _ _ b0 o _ _ _ hl (hs.below ((Below.refl _ _).alloc (Nat.le_refl _) _) hs.lt)).mono ?_
  rintro e w1 ⟨vs, rfl, hsp, hb1⟩
  have P1 := P0.below hb1
  have B1 : Below w.heap.size w w1 := ((Below.refl _ _).alloc (Nat.le_refl _) _).trans (hb1.mono (by simp))
  cases hf : flyB q s fr b l with
  | false =>
    have G : Hid (tubeL q s fr b l = []) := by show _ = _; unfold tubeL; rw [hf]; rfl
    go_wp2
    go_ret
    exact ⟨_, rfl, by rw [G.out]; exact World.ownsRow_nil _ _ _ _, B1⟩
  | true =>
    have G : Hid (tubeL q s fr b l = tubeTo (flyL q s fr b l) l l.length) := by show _ = _; unfold tubeL; rw [hf]; rfl
    have hF := flyL_len hf
    have h40 := fly_len hf
    obtain ⟨g, gc, rfl, hg1, hg2⟩ := owns_some hsp (by omega)
    rw [hF]
    generalize flyL q s fr b l = F at *
    have T1 : TbW w w1 w1.heap.size (.slice (some ⟨g, 0, none⟩) F.length gc) F (.slice none 0 0) (tubeTo F l 0) := ⟨B1, Nat.le_refl _, ⟨hsp.1, hsp.2.imp id fun ⟨g, cap, cur, h1, h2, h3⟩ => ⟨g, cap, cur, h1, Nat.le_trans (by simp) h2, h3⟩⟩, owns_lt hsp, World.ownsRow_nil _ _ _ _⟩
    have p2 := P1.p2
    go_wp2
    have hN : w.heap.size ≤ w1.heap.size := B1.size
    clear P0 P1 p2 hb1 B1 hsp
    generalize w1.heap.size = N at *
    go_loopw [5, 19] (fun v x wr => ∃ k : Nat, k ≤ l.length ∧ x = .int .i64 k ∧ TbW w wr N (.slice (some ⟨g, 0, none⟩) F.length gc) F v (tubeTo F l k)) (fun _ x _ => l.length - (intOf x).toNat)
    case atStart => exact ⟨0, Nat.zero_le _, rfl, T1⟩
    case round =>
      clear T1
      obtain ⟨k, hk, rfl, hT⟩ := hrel
      by_cases hlt : k < l.length
      · obtain ⟨t, ht⟩ : ∃ t, l[k]? = some t := ⟨l[k], List.getElem?_eq_getElem hlt⟩
        have hne : l ≠ [] := by intro e; subst e; simp at hlt
        obtain rfl := hs.here hne
        obtain ⟨c0, c1, c2, c3, c4, c5, c6⟩ := (hs.below hT.old hs.lt).seven ht
        have s0 := (hT.sp.cellAt (k * 2) (by omega)).trans (spanCells_two' (F := F) (k := k) (by omega)).1
        have s1 := (hT.sp.cellAt ((k + 1) * 2 + 1) (by omega)).trans (spanCells_two' (F := F) (k := k + 1) (by omega)).2
        have hgr := owns_lt hT.sp g rfl
        have k0 : (0 : Int) ≤ (k : Int) := by omega
        have k1 : (k : Int) < (l.length : Int) := by omega
        have k2 : (k : Int) + 1 < (l.length : Int) + 1 := by omega
        have k3 : (0 : Int) ≤ (k : Int) + 1 := by omega
        have k4 : (k : Int) < (l.length : Int) + 1 := by omega
        obtain ⟨hh1, hh2⟩ := hr (k + 1)
        have HB : Hid (tubeTo F l (k + 1) = tubeTo F l k ++ [⟨t.x, t.y, t.lo, t.hi, (F.getD k (0, 0)).1, (F.getD (k + 1) (0, 0)).2 - 1⟩]) := by
          show _ = _
          rw [tubeTo_succ]
          unfold tubeAt
          rw [List.getD_eq_getElem?_getD (l := l), ht]
          rfl
        have hlen := tubeTo_length F l k
        clear ht
        generalize hi1 : (F.getD k (0, 0)).1 = in1 at *
        generalize ho1 : (F.getD (k + 1) (0, 0)).2 = out1 at *
        clear hi1 ho1
        have wr1 : IntKind.i64.wrap (out1 - 1) = out1 - 1 := by rw [IntKind.wrap_i64]; omega
        go_wp2
        have T3 := ((hT.keep ((Below.refl wr.heap.size wr).alloc (Nat.le_refl _) (.cells #[.int .i64 t.x, .int .i64 t.y, .int .i64 t.lo, .int .i64 t.hi, .int .i64 t.fr, .int .i64 t.by_, .bool t.ho] 74))).keep ((Below.refl _ _).alloc (Nat.le_refl _) (.cells #[.int .i64 t.x, .int .i64 t.y, .int .i64 t.lo, .int .i64 t.hi, .int .i64 in1, .int .i64 (out1 - 1)] 76))).keep ((Below.refl _ _).drew)
        have hnw : ∀ (j : Nat) (u : Value), (Bx.cells ⟨t.x, t.y, t.lo, t.hi, in1, out1 - 1⟩)[j]? = some u → (((wr.alloc (.cells #[.int .i64 t.x, .int .i64 t.y, .int .i64 t.lo, .int .i64 t.hi, .int .i64 t.fr, .int .i64 t.by_, .bool t.ho] 74)).alloc (.cells #[.int .i64 t.x, .int .i64 t.y, .int .i64 t.lo, .int .i64 t.hi, .int .i64 in1, .int .i64 (out1 - 1)] 76)).drew).cell? ((⟨wr.heap.size + 1, 0, none⟩ : Addr).add j) = some u := by
          intro j u hj
          have := six_newF (wr.alloc (.cells #[.int .i64 t.x, .int .i64 t.y, .int .i64 t.lo, .int .i64 t.hi, .int .i64 t.fr, .int .i64 t.by_, .bool t.ho] 74)) ⟨t.x, t.y, t.lo, t.hi, in1, out1 - 1⟩ 76 j u hj
          rw [World.size_alloc] at this
          exact this
        have hvb := owns_lt hT.own
        have hNw := hT.lt
        go_region_held3 (fun w' => w'.cell? ⟨wr.heap.size, 0, none⟩ = some (.int .i64 t.x) ∧ w'.cell? ⟨wr.heap.size, 1, none⟩ = some (.int .i64 t.y) ∧ w'.cell? ⟨wr.heap.size, 2, none⟩ = some (.int .i64 t.lo) ∧ w'.cell? ⟨wr.heap.size, 3, none⟩ = some (.int .i64 t.hi) ∧ w'.cell? ⟨g, k * 2, none⟩ = some (.int .i64 in1))
          (simp [go_sem, World.cell?_alloc_lt, *])
          (first
            | (refine wp_append_own _ (.tmp 31) (.tmp 47) 37 rfl N 76 i0 (.agg #[.int .i64 0, .int .i64 0, .int .i64 0, .int .i64 0, .int .i64 0, .int .i64 0]) 6 48 Tryz.underlying37 hi hz0 hz1 hz2 rfl (by decide) u5 _ _ rfl T3.own ⟨wr.heap.size + 1, 0, none⟩ 1 1 (Bx.cells ⟨t.x, t.y, t.lo, t.hi, in1, out1 - 1⟩) rfl rfl hnw (by simp [Value.oneCell']) (by unfold maxLen; omega) (by omega) (by simp; omega) ?_; intro v7 w7 hown7 hgrow7 hnil7; have e0 : ∀ j, w7.cell? ⟨wr.heap.size, j, none⟩ = _ := (fun j => World.cell?_of_block (a := ⟨wr.heap.size, j, none⟩) (hgrow7.block wr.heap.size (by simp; omega) (fun e => by have := hvb _ e.symm; omega))); have e1 : ∀ j, w7.cell? ⟨g, j, none⟩ = _ := (fun j => World.cell?_of_block (a := ⟨g, j, none⟩) (hgrow7.block g (by simp; omega) (fun e => by have := hT.spN g rfl; have := owns_base hT.own _ e.symm; omega)))))
        go_wp2
        go_roundw
        case rel => exact ⟨k + 1, by omega, by go_num, by rw [HB.out]; exact T3.push hN hgrow7 hown7⟩
        case measure => simp [intOf]; omega
      · obtain rfl : k = l.length := by omega
        go_wp2
        go_ret
        obtain ⟨av, cv, rfl⟩ : ∃ a c, u5 = .slice a (tubeTo F l l.length).length c := by
          rcases hT.own.2 with ⟨rfl, h0⟩ | ⟨g, cap, cur, rfl, _⟩
          · exact ⟨none, 0, by rw [h0]⟩
          · exact ⟨_, _, rfl⟩
        refine ⟨_, rfl, ?_, hT.old⟩
        rw [G.out]
        exact ⟨hT.own.1, hT.own.2.imp id fun ⟨g, cap, cur, h1, h2, h3⟩ => ⟨g, cap, cur, h1, Nat.le_trans hN h2, h3⟩⟩
end Go.Proofs.YtfnopcgmlfedfaaGreatDoor

namespace Go.Proofs.YtfnopcgmlfedfaaGreatDoor
open Go.RowKit

set_option maxRecDepth 20000 in
set_option maxHeartbeats 1000000 in
theorem flySpansS_any (q s fr b : Int) (a : Option Addr) (b0 o cap : Nat) (l : List Stp) (w : World) (hl : l.length ≤ 1048576) (hs : StepsAt w a b0 o l) :
    Calls Tryz.prog 23 #[.agg #[.int .i64 q, .int .i64 s, .slice a l.length cap, .int .i64 fr, .int .i64 b]] w
      fun e w' => ∃ v, e = .returned (.tuple #[v, .bool (flyB q s fr b l)]) ∧ w'.ownsRow w.heap.size 66 2 v (flyL q s fr b l).length (spanCells (flyL q s fr b l)) ∧ Below w.heap.size w w' := by
  have hB0 := BoxP.new w q s fr b (.slice a l.length cap) 32
  cases hp : pathB q s fr b l with
  | false =>
    have e1 : flyB q s fr b l = false := by unfold flyB; rw [hp]; rfl
    have e2 : flyL q s fr b l = [] := by unfold flyL; rw [hp]; rfl
    rw [e1, e2]
    go_enter Tryz.func23, Tryz.ntmps23
    go_wp2_with fail
    refine (pathS_any _ _ _ _ _ b0 o _ _ _ hl (hs.alloc _)).mono ?_
    rw [hp]
    rintro e w1 ⟨rfl, hb1⟩
    have hB1 := hB0.below hb1
    go_wp2
    go_ret2
    exact ⟨_, rfl, owns_empty hB1.old.size, hB1.old.alloc hB1.old.size _⟩
  | true =>
    have e1 : flyB q s fr b l = spanB q s fr b l := by unfold flyB; rw [hp]; rfl
    have e2 : flyL q s fr b l = spansL q s fr b l := by unfold flyL; rw [hp]; rfl
    rw [e1, e2]
    go_enter Tryz.func23, Tryz.ntmps23
    go_wp2_with fail
    refine (pathS_any _ _ _ _ _ b0 o _ _ _ hl (hs.alloc _)).mono ?_
    rw [hp]
    rintro e w1 ⟨rfl, hb1⟩
    have hB1 := hB0.below hb1
    have p0 := hB1.p0
    have p1 := hB1.p1
    have p2 := hB1.p2
    have p3 := hB1.p3
    have p4 := hB1.p4
    have z1 := hB1.lt
    clear hb1
    go_wp2_with fail
    refine (spansS_wide _ _ _ _ _ b0 o _ _ _ (hs.below hB1.old hs.lt) (Wide.of hp)).mono ?_
    rintro e w2 ⟨v, rfl, hown, hb2⟩
    go_wp2
    go_ret2
    exact ⟨_, rfl, ⟨hown.1, hown.2.imp id fun ⟨g, cap, cur, h1, h2, h3⟩ => ⟨g, cap, cur, h1, by omega, h3⟩⟩, hB1.old.trans (hb2.mono hB1.old.size)⟩
end Go.Proofs.YtfnopcgmlfedfaaGreatDoor

namespace Go.Proofs.YtfnopcgmlfedfaaGreatDoor
open Go.RowKit

/-- Rows of spans and of boxes lie apart. -/
theorem span_box_apart {w : World} {base base' n n' : Nat} {v v' : Value} {xs xs' : List Value} (h : w.ownsRow base 66 2 v n xs) (h' : w.ownsRow base' 76 6 v' n' xs') : ∀ k, v.ownBlock = some k → v'.ownBlock ≠ some k := by
  intro k hk hk'
  rcases h.2 with ⟨rfl, _⟩ | ⟨g, cap, cur, rfl, _, hh, _⟩
  · simp [Value.ownBlock] at hk
  rcases h'.2 with ⟨rfl, _⟩ | ⟨g', cap', cur', rfl, _, hh', _⟩
  · simp [Value.ownBlock] at hk'
  simp [Value.ownBlock] at hk hk'
  subst hk
  subst hk'
  rw [hh] at hh'
  have := congrArg (fun o => match o with | some (Obj.cells _ t _) => t | _ => 0) hh'
  simp at this
structure TbS (w wr : World) (q s fr b : Int) (vp vs : Value) (F : List (Int × Int)) (v : Value) (m : List Bx) : Prop where
  old : Below w.heap.size w wr
  pa : BoxP w wr q s fr b vp
  sp : wr.ownsRow (w.heap.size + 1) 66 2 vs F.length (spanCells F)
  own : wr.ownsRow (w.heap.size + 1) 76 6 v m.length (rowC m)
section
variable {w wr w' : World} {q s fr b : Int} {vp vs v : Value} {F : List (Int × Int)} {m : List Bx}
theorem TbS.keep (h : TbS w wr q s fr b vp vs F v m) (hb : Below wr.heap.size wr w') : TbS w w' q s fr b vp vs F v m :=
  ⟨h.old.trans (hb.mono h.old.size), h.pa.below hb, owns_below h.sp hb, owns_below h.own hb⟩
theorem TbS.push {v7 : Value} {t : Bx} (h : TbS w wr q s fr b vp vs F v m) (hg : wr.grownBy w' v.ownBlock) (ho : w'.ownsRow (w.heap.size + 1) 76 6 v7 (m.length + 1) (rowC m ++ t.cells)) : TbS w w' q s fr b vp vs F v7 (m ++ [t]) := by
  have hbase := owns_base h.own
  refine ⟨h.old.grown hg h.old.size (fun k e => by have := hbase k e; omega), h.pa.keep ((Below.refl _ _).grown hg h.pa.lt (fun k e => by have := hbase k e; omega)), ?_, ?_⟩
  · refine h.sp.kept hg ?_
    cases e : vs.ownBlock with
    | none => exact Or.inl rfl
    | some k => exact Or.inr (fun e2 => span_box_apart h.sp h.own k e e2.symm)
  · rw [rowC_snocF, List.length_append]
    exact ho
end

set_option maxRecDepth 20000 in
set_option maxHeartbeats 4000000 in
theorem flyTubeS_any (q s fr b : Int) (a : Option Addr) (b0 o cap : Nat) (l : List Stp) (w : World) (hl : l.length ≤ 1048576) (hs : StepsAt w a b0 o l) :
    Calls Tryz.prog 10 #[.agg #[.int .i64 q, .int .i64 s, .slice a l.length cap, .int .i64 fr, .int .i64 b]] w
      fun e w' => ∃ v, e = .returned v ∧ w'.ownsRow w.heap.size 76 6 v (tubeL q s fr b l).length (rowC (tubeL q s fr b l)) ∧ Below w.heap.size w w' := by
  obtain ⟨i0, hi, hz0, hz1, hz2⟩ := info_parts fbox_info
  have hr := fly_range q s fr b l
  have P0 := (BoxP.new w q s fr b (.slice a l.length cap) 32).below ((Below.refl _ _).alloc (Nat.le_refl _) (.cells #[] 76))
  have E0 := owns_empty (w := w.alloc (.cells #[.int .i64 q, .int .i64 s, .slice a l.length cap, .int .i64 fr, .int .i64 b] 32)) (base := w.heap.size + 1) (e := 76) (size := 6) (by simp)
  rw [World.size_alloc] at E0
  have B0 : Below w.heap.size w ((w.alloc (.cells #[.int .i64 q, .int .i64 s, .slice a l.length cap, .int .i64 fr, .int .i64 b] 32)).alloc (.cells #[] 76)) := ((Below.refl _ _).alloc (Nat.le_refl _) _).alloc (by simp) _
  go_enter Tryz.func10, Tryz.ntmps10
  go_wp2_with fail
  refine (flySpansS_any _ _ _ _ _ b0 o _ _ _ hl (hs.below B0 hs.lt)).mono ?_
  rintro e w1 ⟨vs, rfl, hsp, hb1⟩
  have P1 := P0.below hb1
  have B1 : Below w.heap.size w w1 := B0.trans (hb1.mono (by simp; omega))
  have E1 := owns_below E0 hb1
  have p2 := P1.p2
  cases hf : flyB q s fr b l with
  | false =>
    have G : Hid (tubeL q s fr b l = []) := by show _ = _; unfold tubeL; rw [hf]; rfl
    go_wp2
    go_loopw [3, 6] (fun v x wr => v = .slice (some ⟨w.heap.size + 1, 0, none⟩) 0 0 ∧ x = .int .i64 0 ∧ wr = w1) (fun _ _ _ => 0)
    case atStart => exact ⟨rfl, rfl, rfl⟩
    case round =>
      obtain ⟨rfl, rfl, rfl⟩ := hrel
      go_wp2
      go_ret
      exact ⟨_, rfl, by rw [G.out]; exact ⟨E1.1, E1.2.imp id fun ⟨g, cap, cur, h1, h2, h3⟩ => ⟨g, cap, cur, h1, by omega, h3⟩⟩, B1⟩
  | true =>
    have G : Hid (tubeL q s fr b l = tubeTo (flyL q s fr b l) l l.length) := by show _ = _; unfold tubeL; rw [hf]; rfl
    have hF := flyL_len hf
    have h40 := fly_len hf
    obtain ⟨g, gc, rfl, hg1, hg2⟩ := owns_some hsp (by omega)
    rw [hF]
    generalize flyL q s fr b l = F at *
    have T1 : TbS w w1 q s fr b (.slice a l.length cap) (.slice (some ⟨g, 0, none⟩) F.length gc) F (.slice (some ⟨w.heap.size + 1, 0, none⟩) 0 0) (tubeTo F l 0) := ⟨B1, P1, ⟨hsp.1, hsp.2.imp id fun ⟨g, cap, cur, h1, h2, h3⟩ => ⟨g, cap, cur, h1, Nat.le_trans (by simp) h2, h3⟩⟩, E1⟩
    clear P0 P1 p2 hb1 B1 hsp E0 E1 B0 hg1 hg2
    go_wp2
    go_loopw [3, 6] (fun v x wr => ∃ k : Nat, k ≤ l.length ∧ x = .int .i64 k ∧ TbS w wr q s fr b (.slice a l.length cap) (.slice (some ⟨g, 0, none⟩) F.length gc) F v (tubeTo F l k)) (fun _ x _ => l.length - (intOf x).toNat)
    case atStart => exact ⟨0, Nat.zero_le _, rfl, T1⟩
    case round =>
      clear T1
      obtain ⟨k, hk, rfl, hT⟩ := hrel
      have p2 := hT.pa.p2
      by_cases hlt : k < l.length
      · obtain ⟨t, ht⟩ : ∃ t, l[k]? = some t := ⟨l[k], List.getElem?_eq_getElem hlt⟩
        have hne : l ≠ [] := by intro e; subst e; simp at hlt
        obtain rfl := hs.here hne
        obtain ⟨c0, c1, c2, c3, c4, c5, c6⟩ := (hs.below hT.old hs.lt).seven ht
        have s0 := (hT.sp.cellAt (k * 2) (by omega)).trans (spanCells_two' (F := F) (k := k) (by omega)).1
        have s1 := (hT.sp.cellAt ((k + 1) * 2 + 1) (by omega)).trans (spanCells_two' (F := F) (k := k + 1) (by omega)).2
        have hgr := owns_lt hT.sp g rfl
        have k0 : (0 : Int) ≤ (k : Int) := by omega
        have k1 : (k : Int) < (l.length : Int) := by omega
        have k2 : (k : Int) + 1 < (l.length : Int) + 1 := by omega
        have k3 : (0 : Int) ≤ (k : Int) + 1 := by omega
        have k4 : (k : Int) < (l.length : Int) + 1 := by omega
        have wk : IntKind.i64.wrap ((k : Int) + 1) = (k : Int) + 1 := by rw [IntKind.wrap_i64]; omega
        have wk2 : wrap64 ((k : Int) + 1) = (k : Int) + 1 := by unfold wrap64; omega
        have k5 : (k : Int) + 1 ≤ (l.length : Int) := by omega
        obtain ⟨hh1, hh2⟩ := hr (k + 1)
        have HB : Hid (tubeTo F l (k + 1) = tubeTo F l k ++ [⟨t.x, t.y, t.lo, t.hi, (F.getD k (0, 0)).1, (F.getD (k + 1) (0, 0)).2 - 1⟩]) := by
          show _ = _
          rw [tubeTo_succ]
          unfold tubeAt
          rw [List.getD_eq_getElem?_getD (l := l), ht]
          rfl
        have hlen := tubeTo_length F l k
        clear ht
        generalize hi1 : (F.getD k (0, 0)).1 = in1 at *
        generalize ho1 : (F.getD (k + 1) (0, 0)).2 = out1 at *
        clear hi1 ho1
        have wr1 : IntKind.i64.wrap (out1 - 1) = out1 - 1 := by rw [IntKind.wrap_i64]; omega
        go_wp2
        have T3 := ((hT.keep ((Below.refl wr.heap.size wr).alloc (Nat.le_refl _) (.cells #[.int .i64 t.x, .int .i64 t.y, .int .i64 t.lo, .int .i64 t.hi, .int .i64 t.fr, .int .i64 t.by_, .bool t.ho] 74))).keep ((Below.refl _ _).alloc (Nat.le_refl _) (.cells #[.int .i64 t.x, .int .i64 t.y, .int .i64 t.lo, .int .i64 t.hi, .int .i64 in1, .int .i64 (out1 - 1)] 76))).keep ((Below.refl _ _).drew)
        have hnw : ∀ (j : Nat) (u : Value), (Bx.cells ⟨t.x, t.y, t.lo, t.hi, in1, out1 - 1⟩)[j]? = some u → (((wr.alloc (.cells #[.int .i64 t.x, .int .i64 t.y, .int .i64 t.lo, .int .i64 t.hi, .int .i64 t.fr, .int .i64 t.by_, .bool t.ho] 74)).alloc (.cells #[.int .i64 t.x, .int .i64 t.y, .int .i64 t.lo, .int .i64 t.hi, .int .i64 in1, .int .i64 (out1 - 1)] 76)).drew).cell? ((⟨wr.heap.size + 1, 0, none⟩ : Addr).add j) = some u := by
          intro j u hj
          have := six_newF (wr.alloc (.cells #[.int .i64 t.x, .int .i64 t.y, .int .i64 t.lo, .int .i64 t.hi, .int .i64 t.fr, .int .i64 t.by_, .bool t.ho] 74)) ⟨t.x, t.y, t.lo, t.hi, in1, out1 - 1⟩ 76 j u hj
          rw [World.size_alloc] at this
          exact this
        have hvb := owns_lt hT.own
        have hNw := hT.pa.lt
        have hap := span_box_apart hT.sp hT.own g rfl
        go_region_held3 (fun w' => w'.cell? ⟨wr.heap.size, 0, none⟩ = some (.int .i64 t.x) ∧ w'.cell? ⟨wr.heap.size, 1, none⟩ = some (.int .i64 t.y) ∧ w'.cell? ⟨wr.heap.size, 2, none⟩ = some (.int .i64 t.lo) ∧ w'.cell? ⟨wr.heap.size, 3, none⟩ = some (.int .i64 t.hi) ∧ w'.cell? ⟨g, k * 2, none⟩ = some (.int .i64 in1) ∧ w'.cell? ⟨g, (k + 1) * 2 + 1, none⟩ = some (.int .i64 out1))
          (simp [go_sem, World.cell?_alloc_lt, *])
          (first
            | (refine wp_append_own _ (.tmp 29) (.tmp 51) 37 rfl (w.heap.size + 1) 76 i0 (.agg #[.int .i64 0, .int .i64 0, .int .i64 0, .int .i64 0, .int .i64 0, .int .i64 0]) 6 48 Tryz.underlying37 hi hz0 hz1 hz2 rfl (by decide) u3 _ _ rfl T3.own ⟨wr.heap.size + 1, 0, none⟩ 1 1 (Bx.cells ⟨t.x, t.y, t.lo, t.hi, in1, out1 - 1⟩) rfl rfl hnw (by simp [Value.oneCell']) (by unfold maxLen; omega) (by omega) (by simp; omega) ?_; intro v7 w7 hown7 hgrow7 hnil7; have e0 : ∀ j, w7.cell? ⟨wr.heap.size, j, none⟩ = _ := (fun j => World.cell?_of_block (a := ⟨wr.heap.size, j, none⟩) (hgrow7.block wr.heap.size (by simp; omega) (fun e => by have := hvb _ e.symm; omega))); have e1 : ∀ j, w7.cell? ⟨g, j, none⟩ = _ := (fun j => World.cell?_of_block (a := ⟨g, j, none⟩) (hgrow7.block g (by simp; omega) (fun e => hap e.symm)))))
        go_wp2
        go_roundw
        case rel => exact ⟨k + 1, by omega, by go_num, by rw [HB.out]; exact T3.push hgrow7 hown7⟩
        case measure => simp [intOf]; omega
      · obtain rfl : k = l.length := by omega
        go_wp2
        go_ret
        obtain ⟨av, cv, rfl⟩ : ∃ a c, u3 = .slice a (tubeTo F l l.length).length c := by
          rcases hT.own.2 with ⟨rfl, h0⟩ | ⟨g, cap, cur, rfl, _⟩
          · exact ⟨none, 0, by rw [h0]⟩
          · exact ⟨_, _, rfl⟩
        refine ⟨_, rfl, ?_, hT.old⟩
        rw [G.out]
        exact ⟨hT.own.1, hT.own.2.imp id fun ⟨g, cap, cur, h1, h2, h3⟩ => ⟨g, cap, cur, h1, by omega, h3⟩⟩
end Go.Proofs.YtfnopcgmlfedfaaGreatDoor

namespace Go.Proofs.YtfnopcgmlfedfaaGreatDoor
open Go.RowKit

theorem boxes_owned {w : World} {base : Nat} {e : TypeId} {v : Value} {m : List Bx} (h : w.ownsRow base e 6 v m.length (rowC m)) : ∃ a g cap, v = .slice a m.length cap ∧ BoxesAt w a g 0 m := by
  rcases h.2 with ⟨rfl, h0⟩ | ⟨g, cap, cur, rfl, hg, hh, hn, hc, hs, ht⟩
  · have : m = [] := List.length_eq_zero_iff.1 h0
    subst this
    exact ⟨none, 0, 0, rfl, ⟨fun h => absurd rfl h, fun h => absurd rfl h, fun i s hi => by simp at hi⟩⟩
  · refine ⟨some ⟨g, 0, none⟩, g, cap, rfl, ⟨fun _ => rfl, fun _ => lt_of_block hh, fun i s hi j u hu => ?_⟩⟩
    have h1 := rowC_get m i s hi j u hu
    rw [← ht] at h1
    rw [Nat.zero_add, cell_of_row w g (i * 6 + j) cur _ _ hh]
    rw [List.getElem?_take] at h1
    split at h1
    · simpa using h1
    · cases h1

theorem path_some {q s fr b : Int} {l : List Stp} (h : pathB q s fr b l = true) : 1 ≤ l.length := by
  have := path_len h
  omega
theorem fly_some {q s fr b : Int} {l : List Stp} (h : flyB q s fr b l = true) {k : Nat} (_hk : k ≤ l.length) : (spanAt q s fr b l l.length k).1 ≤ (spanAt q s fr b l l.length k).2 := by
  have hs := (Bool.and_eq_true_iff.1 h).2
  unfold spanB at hs
  have h3 := (Bool.and_eq_true_iff.1 hs).2
  simp only [bwdTo, List.all_eq_true, List.mem_range, someB, decide_eq_true_eq] at h3
  exact h3 _ (by omega)

theorem tube_get {q s fr b : Int} {l : List Stp} (h : flyB q s fr b l = true) {k : Nat} (hk : k < l.length) :
    (tubeL q s fr b l)[k]? = some ⟨(l.getD k .zero).x, (l.getD k .zero).y, (l.getD k .zero).lo, (l.getD k .zero).hi, (spanAt q s fr b l l.length k).1, (spanAt q s fr b l l.length (k + 1)).2 - 1⟩ := by
  have htl : tubeL q s fr b l = tubeTo (flyL q s fr b l) l l.length := by unfold tubeL; rw [h]; rfl
  have e1 := map_at h (show k ≤ l.length by omega)
  have e2 := map_at h (show k + 1 ≤ l.length by omega)
  rw [htl]
  unfold tubeTo
  rw [List.getElem?_map, List.getElem?_range hk]
  simp only [Option.map_some, tubeAt, List.getD_eq_getElem?_getD, e1, e2, Option.getD_some]
end Go.Proofs.YtfnopcgmlfedfaaGreatDoor

namespace Go.Proofs.YtfnopcgmlfedfaaGreatDoor
open Go.RowKit

set_option maxHeartbeats 4000000 in
set_option maxRecDepth 20000 in
theorem l8All_any (q s fr b : Int) (a : Option Addr) (b0 o cap : Nat) (l : List Stp) (q' s' fr' b' : Int) (a' : Option Addr) (b0' o' cap' : Nat) (l' : List Stp) (t : Int) (ta : Option Addr) (tg tc : Nat) (tb : List Bx) (v : Bool) (w : World) (hl : l.length ≤ 1048576) (hl' : l'.length ≤ 1048576) (hs : StepsAt w a b0 o l) (hs' : StepsAt w a' b0' o' l') (hcap : l.length ≤ cap) (hcap' : l'.length ≤ cap') (hn : tb.length ≤ 1048576) (hB : BoxesAt w ta tg 0 tb)
    (hv : allT tb (fun k => mayB q s fr b l q' s' fr' b' l' (k : Int) t) t = v) :
    Calls Tryz.prog 13 #[.agg #[.int .i64 q, .int .i64 s, .slice a l.length cap, .int .i64 fr, .int .i64 b], .agg #[.int .i64 q', .int .i64 s', .slice a' l'.length cap', .int .i64 fr', .int .i64 b'], .slice ta tb.length tc, .int .i64 t] w
      fun e w' => e = .returned (.bool v) ∧ Below w.heap.size w w' := by
  have T0 := TwoP.new w q s fr b (.slice a l.length cap) q' s' fr' b' (.slice a' l'.length cap')
  have HV : Hid (allT tb (fun k => mayB q s fr b l q' s' fr' b' l' (k : Int) t) t = v) := hv
  have HM : Hid (∀ (k : Nat) (W : World), Below w.heap.size w W → Calls Tryz.prog 27 #[.agg #[.int .i64 q, .int .i64 s, .slice a l.length cap, .int .i64 fr, .int .i64 b], .agg #[.int .i64 q', .int .i64 s', .slice a' l'.length cap', .int .i64 fr', .int .i64 b'], .int .i64 (k : Int), .int .i64 t] W fun e w' => e = .returned (.bool (mayB q s fr b l q' s' fr' b' l' (k : Int) t)) ∧ Below W.heap.size W w') :=
    fun k W hb => flyMayS_any q s fr b a b0 o cap l q' s' fr' b' a' b0' o' cap' l' (k : Int) t W hl hl' (hs.below hb hs.lt) (hs'.below hb hs'.lt) hcap hcap'
  clear hv
  generalize hf : (fun k : Nat => mayB q s fr b l q' s' fr' b' l' (k : Int) t) = f at HV
  have HF : Hid (∀ k : Nat, mayB q s fr b l q' s' fr' b' l' (k : Int) t = f k) := fun k => by rw [← hf]
  clear hf
  go_enter Tryz.func13, Tryz.ntmps13
  go_wp2
  go_loopw [9, 10] (fun s9 s10 wr => ∃ k : Nat, s10 = .int .i64 (k : Int) ∧ s9 = .bool ((tb.take k).any fun s => inB t s.in_ s.out) ∧ k ≤ tb.length ∧ turnTo tb f t k = true ∧ TwoP w wr q s fr b (.slice a l.length cap) q' s' fr' b' (.slice a' l'.length cap')) (fun _ s10 _ => tb.length - (intOf s10).toNat)
  case atStart => exact ⟨0, rfl, rfl, Nat.zero_le _, rfl, T0⟩
  case round =>
    clear T0
    obtain ⟨k, rfl, rfl, hk, hal, T1⟩ := hrel
    have HA : Hid (turnTo tb f t k = true) := hal
    clear hal
    by_cases hlt : k < tb.length
    · obtain ⟨x, hx⟩ : ∃ x, tb[k]? = some x := ⟨tb[k], List.getElem?_eq_getElem hlt⟩
      have HX : Hid (tb[k]? = some x) := hx
      have hne : tb ≠ [] := by intro e; subst e; simp at hlt
      obtain rfl := hB.here hne
      have k0 : (0 : Int) ≤ (k : Int) := by omega
      have k1 : (k : Int) < (tb.length : Int) := by omega
      have KB : Hid (∀ X : World, Below w.heap.size w X → X.cell? ⟨tg, k * 6 + 4, none⟩ = some (.int .i64 x.in_) ∧ X.cell? ⟨tg, k * 6 + 5, none⟩ = some (.int .i64 x.out)) := fun X hb => by
        obtain ⟨_, _, _, _, h4, h5⟩ := (hB.below hb hB.lt).six HX.out
        simp only [Nat.zero_add] at h4 h5
        exact ⟨h4, h5⟩
      have E1 := T1.old.drew
      have T2 := T1.drew
      clear hx
      go_wp2
      cases hi : inB t x.in_ x.out with
      | false =>
        go_region_held3 (fun w' => w'.cell? ⟨tg, k * 6 + 4, none⟩ = some (.int .i64 x.in_) ∧ w'.cell? ⟨tg, k * 6 + 5, none⟩ = some (.int .i64 x.out))
          (first | with_reducible exact KB.out _ E1 | simp [go_sem, *])
          (first | (go_at_call 11; refine (in_val t x.in_ x.out false _ hi).mono ?_; rintro e w1 ⟨rfl, rfl⟩) | fail)
        have HN : Hid (turnTo tb f t (k + 1) = true) := by show _ = _; rw [turnTo_succ HX.out, HA.out, hi]; rfl
        have HS : Hid (((tb.take k).any fun s => inB t s.in_ s.out) = (tb.take (k + 1)).any fun s => inB t s.in_ s.out) := by show _ = _; rw [any_take tb _ HX.out, hi, Bool.or_false]
        clear hi
        go_wp2
        go_roundw
        case rel => exact ⟨k + 1, by go_num, by rw [HS.out], by omega, HN.out, T2⟩
        case measure => simp [intOf]; omega
      | true =>
        go_region_held3 (fun w' => w'.cell? ⟨tg, k * 6 + 4, none⟩ = some (.int .i64 x.in_) ∧ w'.cell? ⟨tg, k * 6 + 5, none⟩ = some (.int .i64 x.out))
          (first | with_reducible exact KB.out _ E1 | simp [go_sem, *])
          (first | (go_at_call 11; refine (in_val t x.in_ x.out true _ hi).mono ?_; rintro e w1 ⟨rfl, rfl⟩) | fail)
        obtain ⟨⟨p0, p1, p2, p3, p4⟩, _⟩ := T2.pa.cells
        obtain ⟨⟨r0, r1, r2, r3, r4⟩, _⟩ := T2.pb.cells
        have HI : Hid (inB t x.in_ x.out = true) := hi
        clear hi
        go_wp2_with fail
        refine (HM.out k _ T2.old).mono ?_
        rintro e w2 ⟨rfl, hb2⟩
        rw [HF.out k]
        have T3 := T2.below hb2
        clear p0 p1 p2 p3 p4 r0 r1 r2 r3 r4
        cases hm : f k with
        | false =>
          obtain rfl : false = v := by rw [← HV.out]; unfold allT; rw [turnTo_not HX.out HI.out hm]; rfl
          clear hm
          go_wp2
          go_ret
          exact ⟨rfl, T3.old⟩
        | true =>
          have HN : Hid (turnTo tb f t (k + 1) = true) := by show _ = _; rw [turnTo_succ HX.out, HA.out, hm]; simp
          have HS : Hid (true = (tb.take (k + 1)).any fun s => inB t s.in_ s.out) := by show _ = _; rw [any_take tb _ HX.out, HI.out, Bool.or_true]
          clear hm
          go_wp2
          go_roundw
          case rel => exact ⟨k + 1, by go_num, by rw [← HS.out], by omega, HN.out, T3⟩
          case measure => simp [intOf]; omega
    · obtain rfl : k = tb.length := by omega
      have HR : Hid (((tb.take tb.length).any fun s => inB t s.in_ s.out) = v) := by
        show _ = _
        rw [← HV.out]
        unfold allT
        rw [HA.out, List.take_length, Bool.true_and]
      go_wp2
      go_ret
      exact ⟨by rw [HR.out]; rfl, T1.old⟩

theorem turnIs_none {g : Int → Bool} {f0 : Int} (h : g f0 = false) : TurnIs g f0 (-1) := ⟨0, fun j hj => by omega, by simpa using h, rfl⟩
theorem turnIs_some {g : Int → Bool} {f0 : Int} {k : Nat} (h : ∀ j : Nat, j < k → g (f0 + j) = true) (hn : g (f0 + k) = false) (hk : ¬ k = 0) : TurnIs g f0 (f0 + k - 1) := ⟨k, h, hn, by rw [if_neg hk]⟩

set_option maxHeartbeats 4000000 in
set_option maxRecDepth 20000 in
theorem flyTurnS_aux (G : Int → Bool) (q s fr b : Int) (a : Option Addr) (b0 o cap : Nat) (l : List Stp) (q' s' fr' b' : Int) (a' : Option Addr) (b0' o' cap' : Nat) (l' : List Stp) (f0 : Int) (w : World) (hl : l.length ≤ 1048576) (hl' : l'.length ≤ 1048576) (hs : StepsAt w a b0 o l) (hs' : StepsAt w a' b0' o' l') (hcap : l.length ≤ cap) (hcap' : l'.length ≤ cap') (hG : turnG q s fr b l q' s' fr' b' l' = G) :
    Calls Tryz.prog 5 #[.agg #[.int .i64 q, .int .i64 s, .slice a l.length cap, .int .i64 fr, .int .i64 b], .agg #[.int .i64 q', .int .i64 s', .slice a' l'.length cap', .int .i64 fr', .int .i64 b'], .int .i64 f0] w
      fun e w' => ∃ r, e = .returned (.int .i64 r) ∧ TurnIs G f0 r ∧ Below w.heap.size w w' := by
  have HGE : Hid (turnG q s fr b l q' s' fr' b' l' = G) := hG
  clear hG
  have T0 := TwoP.new w q s fr b (.slice a l.length cap) q' s' fr' b' (.slice a' l'.length cap')
  have HR : Hid (∀ t, turnG q s fr b l q' s' fr' b' l' t = true → 0 ≤ t ∧ t ≤ 9999 ∧ pathB q' s' fr' b' l' = true) := fun t h => turnG_range h
  obtain ⟨⟨p0, p1, p2, p3, p4⟩, _⟩ := T0.pa.cells
  go_enter Tryz.func5, Tryz.ntmps5
  go_wp2_with fail
  refine (flyTubeS_any q s fr b a b0 o cap l _ hl (hs.below T0.old hs.lt)).mono ?_
  rintro e w1 ⟨v, rfl, ho, hb1⟩
  obtain ⟨ta, tg, tc, rfl, HB1⟩ := boxes_owned ho
  have T1 := T0.below hb1
  have hn : (tubeL q s fr b l).length ≤ 1048576 := by
    unfold tubeL
    split
    · rw [tubeTo_length]; exact hl
    · simp
  clear p0 p1 p2 p3 p4 T0 hb1 ho
  obtain ⟨tb, htb⟩ : ∃ tb, tubeL q s fr b l = tb := ⟨_, rfl⟩
  have HTB : Hid (tubeL q s fr b l = tb) := htb
  rw [htb] at hn HB1 ⊢
  clear htb
  have HG : Hid (∀ t, allT tb (fun k => mayB q s fr b l q' s' fr' b' l' (k : Int) t) t = turnG q s fr b l q' s' fr' b' l' t) := fun t => by rw [← HTB.out]
  have HL : Hid (∀ (t : Int) (v : Bool) (W : World), Below w1.heap.size w1 W → G t = v → Calls Tryz.prog 13 #[.agg #[.int .i64 q, .int .i64 s, .slice a l.length cap, .int .i64 fr, .int .i64 b], .agg #[.int .i64 q', .int .i64 s', .slice a' l'.length cap', .int .i64 fr', .int .i64 b'], .slice ta tb.length tc, .int .i64 t] W fun e w' => e = .returned (.bool v) ∧ Below W.heap.size W w') :=
    fun t v W hb hv => l8All_any q s fr b a b0 o cap l q' s' fr' b' a' b0' o' cap' l' t ta tg tc tb v W hl hl' (hs.below (T1.old.trans (hb.mono T1.old.size)) hs.lt) (hs'.below (T1.old.trans (hb.mono T1.old.size)) hs'.lt) hcap hcap' hn (HB1.below hb HB1.lt) (by rw [HG.out, HGE.out]; exact hv)
  have HR' : Hid (∀ t, G t = true → 0 ≤ t ∧ t ≤ 9999 ∧ pathB q' s' fr' b' l' = true) := fun t h => HR.out t (by rw [HGE.out]; exact h)
  clear HG HR
  obtain ⟨⟨r0, r1, r2, r3, r4⟩, _⟩ := T1.pb.cells
  cases hi : inB f0 0 10000 with
  | false =>
    go_wp2_with fail
    refine (in_val f0 0 10000 false _ hi).mono ?_
    rintro e w2 ⟨rfl, rfl⟩
    have HF : Hid (G f0 = false) := by
      show _ = _
      cases hg : G f0 with
      | false => rfl
      | true =>
        have := HR'.out f0 hg
        rw [(inB_iff f0 0 10000).2 (by omega)] at hi
        cases hi
    clear hi
    go_wp2
    go_ret
    exact ⟨_, rfl, turnIs_none HF.out, T1.old⟩
  | true =>
    have HI : Hid (0 ≤ f0 ∧ f0 ≤ 10000) := (inB_iff f0 0 10000).1 hi
    go_wp2_with fail
    refine (in_val f0 0 10000 true _ hi).mono ?_
    rintro e w2 ⟨rfl, rfl⟩
    clear hi
    go_wp2_with fail
    refine (pathS_any q' s' fr' b' a' b0' o' cap' l' _ hl' (hs'.below T1.old hs'.lt)).mono ?_
    rintro e w3 ⟨rfl, hb3⟩
    have T3 := T1.below hb3
    clear r0 r1 r2 r3 r4
    cases hp : pathB q' s' fr' b' l' with
    | false =>
      have HF : Hid (G f0 = false) := by
        show _ = _
        cases hg : G f0 with
        | false => rfl
        | true =>
          have := (HR'.out f0 hg).2.2
          rw [hp] at this
          cases this
      clear hp
      go_wp2
      go_ret
      exact ⟨_, rfl, turnIs_none HF.out, T3.old⟩
    | true =>
      clear hp
      go_wp2
      go_loopw [8] (fun s8 wr => ∃ k : Nat, s8 = .int .i64 (f0 + (k : Int)) ∧ (∀ j : Nat, j < k → G (f0 + j) = true) ∧ f0 + (k : Int) ≤ 10001 ∧ Below w2.heap.size w2 wr ∧ TwoP w wr q s fr b (.slice a l.length cap) q' s' fr' b' (.slice a' l'.length cap')) (fun s8 _ => (10001 - intOf s8).toNat)
      case atStart => exact ⟨0, by simp, fun j hj => by omega, by have := HI.out; omega, hb3, T3⟩
      case round =>
        clear T1 T3 hb3
        obtain ⟨k, rfl, hal, hk, hb, T4⟩ := hrel
        have HA : Hid (∀ j : Nat, j < k → G (f0 + j) = true) := hal
        clear hal
        have h0 := HI.out
        have e1 : IntKind.i64.wrap (f0 + (k : Int) + 1) = f0 + (k : Int) + 1 := by rw [IntKind.wrap_i64]; omega
        have e2 : IntKind.i64.wrap (f0 + (k : Int) - 1) = f0 + (k : Int) - 1 := by rw [IntKind.wrap_i64]; omega
        clear h0
        obtain ⟨⟨p0, p1, p2, p3, p4⟩, _⟩ := T4.pa.cells
        obtain ⟨⟨r0, r1, r2, r3, r4⟩, _⟩ := T4.pb.cells
        obtain ⟨n, hn9⟩ : ∃ n : Int, f0 + (k : Int) = n := ⟨_, rfl⟩
        have HN : Hid (f0 + (k : Int) = n) := hn9
        rw [hn9] at e1 e2 hk ⊢
        clear hn9
        have fin : ∀ (W : World), G n = false → Below w.heap.size w W → ∃ r, (Ending.returned (.int .i64 (if n == f0 then -1 else n - 1)) : Ending) = .returned (.int .i64 r) ∧ TurnIs G f0 r ∧ Below w.heap.size w W := fun W hg hbW => by
          by_cases hk0 : k = 0
          · subst hk0
            have en : n = f0 := by have := HN.out; simpa using this.symm
            refine ⟨-1, by simp [en], turnIs_none (by rw [← en]; exact hg), hbW⟩
          · have en := HN.out
            have hne : (n == f0) = false := by simp; omega
            refine ⟨n - 1, by rw [hne]; rfl, ?_, hbW⟩
            have := turnIs_some (g := G) (f0 := f0) HA.out (by rw [en]; exact hg) hk0
            rwa [en] at this
        have FIN : Hid (∀ (W : World), G n = false → Below w.heap.size w W → ∃ r, (Ending.returned (.int .i64 (if n == f0 then -1 else n - 1)) : Ending) = .returned (.int .i64 r) ∧ TurnIs G f0 r ∧ Below w.heap.size w W) := fin
        clear fin
        by_cases hle : n ≤ 10000
        · cases hg : G n with
          | true =>
            go_wp2_with fail
            refine (HL.out n true _ hb hg).mono ?_
            rintro e w5 ⟨rfl, hb5⟩
            have T5 := T4.below hb5
            have HGT : Hid (G n = true) := hg
            clear hg p0 p1 p2 p3 p4 r0 r1 r2 r3 r4
            go_wp2
            go_roundw
            case rel =>
              refine ⟨k + 1, ?_, fun j hj => ?_, ?_, hb.trans (hb5.mono hb.size), T5⟩
              · have := HN.out
                rw [← this]
                congr 1
                omega
              · by_cases hjk : j < k
                · exact HA.out j hjk
                · have hj' : j = k := by omega
                  rw [hj', HN.out]
                  exact HGT.out
              · have := HN.out
                omega
            case measure =>
              have := HN.out
              simp [intOf]
              omega
          | false =>
            go_wp2_with fail
            refine (HL.out n false _ hb hg).mono ?_
            rintro e w5 ⟨rfl, hb5⟩
            have T5 := T4.below hb5
            have HGF : Hid (G n = false) := hg
            clear hg p0 p1 p2 p3 p4 r0 r1 r2 r3 r4
            cases hq : (n == f0) with
            | true =>
              have HQ : Hid ((n == f0) = true) := hq
              go_wp2
              go_ret
              have := FIN.out _ HGF.out T5.old
              rw [HQ.out] at this
              exact this
            | false =>
              have HQ : Hid ((n == f0) = false) := hq
              go_wp2
              go_ret
              have := FIN.out _ HGF.out T5.old
              rw [HQ.out] at this
              exact this
        · have HGF : Hid (G n = false) := by
            show _ = _
            cases hg : G n with
            | false => rfl
            | true => have := HR'.out n hg; omega
          clear p0 p1 p2 p3 p4 r0 r1 r2 r3 r4
          cases hq : (n == f0) with
          | true =>
            have HQ : Hid ((n == f0) = true) := hq
            go_wp2
            go_ret
            have := FIN.out _ HGF.out T4.old
            rw [HQ.out] at this
            exact this
          | false =>
            have HQ : Hid ((n == f0) = false) := hq
            go_wp2
            go_ret
            have := FIN.out _ HGF.out T4.old
            rw [HQ.out] at this
            exact this
theorem flyTurnS_any (q s fr b : Int) (a : Option Addr) (b0 o cap : Nat) (l : List Stp) (q' s' fr' b' : Int) (a' : Option Addr) (b0' o' cap' : Nat) (l' : List Stp) (f0 : Int) (w : World) (hl : l.length ≤ 1048576) (hl' : l'.length ≤ 1048576) (hs : StepsAt w a b0 o l) (hs' : StepsAt w a' b0' o' l') (hcap : l.length ≤ cap) (hcap' : l'.length ≤ cap') :
    Calls Tryz.prog 5 #[.agg #[.int .i64 q, .int .i64 s, .slice a l.length cap, .int .i64 fr, .int .i64 b], .agg #[.int .i64 q', .int .i64 s', .slice a' l'.length cap', .int .i64 fr', .int .i64 b'], .int .i64 f0] w
      fun e w' => ∃ r, e = .returned (.int .i64 r) ∧ TurnIs (turnG q s fr b l q' s' fr' b' l') f0 r ∧ Below w.heap.size w w' :=
  flyTurnS_aux _ q s fr b a b0 o cap l q' s' fr' b' a' b0' o' cap' l' f0 w hl hl' hs hs' hcap hcap' rfl
end Go.Proofs.YtfnopcgmlfedfaaGreatDoor

namespace Go.Proofs.YtfnopcgmlfedfaaGreatDoor
open Go.RowKit

theorem race_disable (w : World) : (callFunc 98 #[]).run Tryz.prog w = .ok (.value (.tuple #[])) w := run_call_mark0 Tryz.func98 (by kernel_rfl) (by kernel_rfl) (by kernel_rfl) .disable (by kernel_rfl) w
theorem race_enable (w : World) : (callFunc 100 #[]).run Tryz.prog w = .ok (.value (.tuple #[])) w := run_call_mark0 Tryz.func100 (by kernel_rfl) (by kernel_rfl) (by kernel_rfl) .enable (by kernel_rfl) w
theorem race_acquire (a : Addr) (w : World) : (callFunc 101 #[.pointer (some a)]).run Tryz.prog w = .ok (.value (.tuple #[])) w := run_call_marked Tryz.func101 (by kernel_rfl) (by kernel_rfl) (by kernel_rfl) .acquire (by kernel_rfl) a w
theorem race_releaseMerge (a : Addr) (w : World) : (callFunc 103 #[.pointer (some a)]).run Tryz.prog w = .ok (.value (.tuple #[])) w := run_call_marked Tryz.func103 (by kernel_rfl) (by kernel_rfl) (by kernel_rfl) .releaseMerge (by kernel_rfl) a w

set_option maxRecDepth 100000 in
set_option maxHeartbeats 1600000 in
/-- The Once's word is stored, as a deferred call. -/
theorem store_deferred (a : Addr) (x : Value) (u : FrameMode) (w : World) (hc : w.cell? a = some x) (hz : w.frozen? a = false) :
    CallsD Tryz.prog 82 #[.pointer (some a), .bool true] u w fun e u' w' => u' = u ∧ (e = .returned (.tuple #[]) ∧ w' = w.drew.setCell a (.int .u32 1)) := by
  have hc' : w.drew.cell? a = some x := by go_simp
  have hz' : w.drew.frozen? a = false := by go_simp
  have hst := run_call_store (P := Tryz.prog) Tryz.func92 (by kernel_rfl) (by kernel_rfl) (by kernel_rfl) (by kernel_rfl) (k := .u32) (y := 1) hc' hz'
  go_enter_d Tryz.func82, Tryz.ntmps82
  go_wp2
  go_region_calls
  all_goals (go_end0; exact ⟨rfl, rfl⟩)

set_option maxRecDepth 100000 in
set_option maxHeartbeats 1600000 in
/-- The lock is let go, as a deferred call. -/
theorem unlock_deferred (a : Addr) (u : FrameMode) (w : World) (hc : w.cell? a = some (.int .i32 1)) (hz : w.frozen? a = false) :
    CallsD Tryz.prog 81 #[.pointer (some a)] u w fun e u' w' => u' = u ∧ (e = .returned (.tuple #[]) ∧ w' = w.setCell a (.int .i32 0)) := by
  have hd := race_disable
  have he := race_enable
  have hr := race_releaseMerge
  have hadd := run_call_add (P := Tryz.prog) Tryz.func104 (by kernel_rfl) (by kernel_rfl) (by kernel_rfl) .i32 (by kernel_rfl) (y := -1) (s := 0) hc hz (by simp [go_sem]; rfl)
  have hcv := run_convert_to_unsafe (P := Tryz.prog) (src := 146) (dst := 150) Tryz.underlying146 Tryz.underlying150 (by kernel_rfl) hc
  go_enter_d Tryz.func81, Tryz.ntmps81
  go_wp2
  go_end0
  go_wp2
  go_end0
  exact ⟨rfl, rfl⟩

set_option maxRecDepth 100000 in
set_option maxHeartbeats 1600000 in
/-- The lock is taken. -/
theorem lock_free (a : Addr) (w : World) (hc : w.cell? a = some (.int .i32 0)) (hz : w.frozen? a = false) :
    Calls Tryz.prog 80 #[.pointer (some a)] w fun e w' => e = .returned (.tuple #[]) ∧ w' = w.setCell a (.int .i32 1) := by
  have hd := race_disable
  have he := race_enable
  have ha := race_acquire
  have hcas := run_call_cas_hit (P := Tryz.prog) Tryz.func99 (by kernel_rfl) (by kernel_rfl) (by kernel_rfl) .i32 (by kernel_rfl) (y := 1) hc hz
  have hc' : (w.setCell a (.int .i32 1)).cell? a = some (.int .i32 1) := World.cell?_setCell_same w a _ hc
  have hcv := run_convert_to_unsafe (P := Tryz.prog) (src := 146) (dst := 150) Tryz.underlying146 Tryz.underlying150 (by kernel_rfl) hc'
  go_enter Tryz.func80, Tryz.ntmps80
  go_wp2
  first | go_end0 | (simp only [Exit.inBlock, Exit.then]; refine bodyPost_ret (results_none rfl _ _ _) rfl ?_) | refine bodyPost_ret (results_none rfl _ _ _) rfl ?_
  go_wp2
  go_end0
  exact ⟨rfl, rfl⟩
end Go.Proofs.YtfnopcgmlfedfaaGreatDoor

namespace Go.Proofs.YtfnopcgmlfedfaaGreatDoor
open Go.RowKit

set_option maxRecDepth 100000 in
set_option maxHeartbeats 3200000 in
theorem slow_any (b : Nat) (pl : Addr) (hpb : ¬ b = pl.block) (x3 : Value) (w : World) (hp : w.cell? pl = some (.pointer (some ⟨b, 0, none⟩)))
    (h0 : w.cell? ⟨b, 10, none⟩ = some (.int .u32 0)) (h1 : w.cell? ⟨b, 11, none⟩ = some (.int .i32 0)) (h3 : w.cell? ⟨b, 13, none⟩ = some x3)
    (hf : ∀ j, w.frozen? ⟨b, j, none⟩ = false) :
    Calls Tryz.prog 69 #[.pointer (some ⟨b, 10, none⟩), .func (.func 48) #[] #[.pointer (some pl)]] w fun e w' => e = .returned (.tuple #[]) ∧
      w' = ((((w.setCell ⟨b, 11, none⟩ (.int .i32 1)).alloc (.map #[] 0)).setCell ⟨b, 13, none⟩ (.map (some w.heap.size))).drew.setCell ⟨b, 10, none⟩ (.int .u32 1)).setCell ⟨b, 11, none⟩ (.int .i32 0) := by
  have hmm := @run_makeMap Tryz.prog
  have hl := run_call_load (P := Tryz.prog) Tryz.func79 (by kernel_rfl) (by kernel_rfl) (by kernel_rfl) .u32 (by kernel_rfl) (w := w.setCell ⟨b, 11, none⟩ (.int .i32 1)) (a := ⟨b, 10, none⟩) (x := 0) ((World.cell?_setCell_other _ ⟨b, 11, none⟩ ⟨b, 10, none⟩ _ (by simp)).trans h0)
  have hp1 : (w.setCell ⟨b, 11, none⟩ (.int .i32 1)).cell? pl = some (.pointer (some ⟨b, 0, none⟩)) := (World.cell?_setCell_other _ ⟨b, 11, none⟩ pl _ (fun h => hpb (by rw [← h]))).trans hp
  have h31 : (w.setCell ⟨b, 11, none⟩ (.int .i32 1)).cell? ⟨b, 13, none⟩ = some x3 := (World.cell?_setCell_other _ ⟨b, 11, none⟩ ⟨b, 13, none⟩ _ (by simp)).trans h3
  have hb : b < (w.setCell ⟨b, 11, none⟩ (.int .i32 1)).heap.size := World.block_lt_of_cell? _ _ h31
  have h32 : ((w.setCell ⟨b, 11, none⟩ (.int .i32 1)).alloc (.map #[] 0)).cell? ⟨b, 13, none⟩ = some x3 := by rw [World.cell?_alloc_past _ _ _ hb]; exact h31
  have f32 : ((w.setCell ⟨b, 11, none⟩ (.int .i32 1)).alloc (.map #[] 0)).frozen? ⟨b, 13, none⟩ = false := by rw [World.frozen?_alloc_past _ _ _ hb]; simp [hf]
  have hnot : ∀ (x : Bool) (w : World), (Op.unary .not (.bool x)).run Tryz.prog w = .ok (.bool (!x)) w := fun _ _ => rfl
  go_enter_defers Tryz.func69, Tryz.ntmps69
  go_wp2_with (go_at_call 80; refine (lock_free ⟨b, 11, none⟩ _ (by go_simp) (by go_simp)).mono ?_; rintro e w' ⟨rfl, rfl⟩)
  go_wp2
  go_end0
  go_wp2
  refine leaves_cons (f := 82) (args := #[.pointer (some ⟨b, 10, none⟩), .bool true]) (by simp) (by simp [go_sem]) ?_
  refine (store_deferred ⟨b, 10, none⟩ (.int .u32 0) .returning _ ?_ (by simp [World.frozen?_alloc_past _ _ _ hb, hf])).mono ?_
  · exact (World.cell?_setCell_other _ ⟨b, 13, none⟩ ⟨b, 10, none⟩ _ (by simp)).trans ((World.cell?_alloc_past _ _ _ hb).trans ((World.cell?_setCell_other _ ⟨b, 11, none⟩ ⟨b, 10, none⟩ _ (by simp)).trans h0))
  rintro e u' w'' ⟨rfl, rfl, rfl⟩
  refine leaves_cons (f := 81) (args := #[.pointer (some ⟨b, 11, none⟩)]) (by simp [settle]) (by simp [go_sem]) ?_
  refine (unlock_deferred ⟨b, 11, none⟩ _ _ ?_ (by simp [World.frozen?_alloc_past _ _ _ hb, hf])).mono ?_
  · refine (World.cell?_setCell_other _ ⟨b, 10, none⟩ ⟨b, 11, none⟩ _ (by simp)).trans ?_
    rw [World.cell?_drew]
    exact (World.cell?_setCell_other _ ⟨b, 13, none⟩ ⟨b, 11, none⟩ _ (by simp)).trans ((World.cell?_alloc_past _ _ _ hb).trans (World.cell?_setCell_same w _ _ h1))
  rintro e u' w'' ⟨rfl, rfl, rfl⟩
  simp [Leaves, settle, results, Tryz.results69]

set_option maxRecDepth 100000 in
set_option maxHeartbeats 1600000 in
/-- Not yet done. -/
theorem do_first (b : Nat) (pl : Addr) (hpb : ¬ b = pl.block) (x3 : Value) (w : World) (hp : w.cell? pl = some (.pointer (some ⟨b, 0, none⟩)))
    (h0 : w.cell? ⟨b, 10, none⟩ = some (.int .u32 0)) (h1 : w.cell? ⟨b, 11, none⟩ = some (.int .i32 0)) (h3 : w.cell? ⟨b, 13, none⟩ = some x3)
    (hf : ∀ j, w.frozen? ⟨b, j, none⟩ = false) :
    Calls Tryz.prog 47 #[.pointer (some ⟨b, 10, none⟩), .func (.func 48) #[] #[.pointer (some pl)]] w fun e w' => e = .returned (.tuple #[]) ∧
      w' = ((((w.setCell ⟨b, 11, none⟩ (.int .i32 1)).alloc (.map #[] 0)).setCell ⟨b, 13, none⟩ (.map (some w.heap.size))).drew.setCell ⟨b, 10, none⟩ (.int .u32 1)).setCell ⟨b, 11, none⟩ (.int .i32 0) := by
  have hl := run_call_load (P := Tryz.prog) Tryz.func79 (by kernel_rfl) (by kernel_rfl) (by kernel_rfl) .u32 (by kernel_rfl) h0
  have hnot : ∀ (x : Bool) (w : World), (Op.unary .not (.bool x)).run Tryz.prog w = .ok (.bool (!x)) w := fun _ _ => rfl
  go_enter Tryz.func47, Tryz.ntmps47
  go_wp2_with (first | (go_at_call 69; refine (slow_any b pl hpb x3 _ hp h0 h1 h3 hf).mono ?_; rintro e w' ⟨rfl, rfl⟩) | (go_at_call 68; go_in))
  go_end0
  exact ⟨rfl, rfl⟩
/-- Done already. -/
theorem do_done (a : Addr) (fv : Value) (w : World) (h0 : w.cell? a = some (.int .u32 1)) :
    Calls Tryz.prog 47 #[.pointer (some a), fv] w fun e w' => e = .returned (.tuple #[]) ∧ w' = w := by
  have hl := run_call_load (P := Tryz.prog) Tryz.func79 (by kernel_rfl) (by kernel_rfl) (by kernel_rfl) .u32 (by kernel_rfl) h0
  have hnot : ∀ (x : Bool) (w : World), (Op.unary .not (.bool x)).run Tryz.prog w = .ok (.bool (!x)) w := fun _ _ => rfl
  go_enter Tryz.func47, Tryz.ntmps47
  go_wp2
  go_end0
  exact ⟨rfl, rfl⟩
end Go.Proofs.YtfnopcgmlfedfaaGreatDoor

namespace Go.Proofs.YtfnopcgmlfedfaaGreatDoor
open Go.RowKit

theorem int_check (em : Bool) (n : Nat) (i : Int) (w : World) : (Instr.checkKey em (n + 1) 3 (.int .i64 i)).run Tryz.prog w = .ok () w := by
  simp [Instr.checkKey, run_underlying Tryz.underlying3, Result.andThen]
theorem int_equal (n : Nat) (i j : Int) (w : World) : (Op.equalIn (n + 1) 3 (.int .i64 i) (.int .i64 j)).run Tryz.prog w = .ok (i == j) w := by
  simp [Op.equalIn, run_underlying Tryz.underlying3, Result.andThen]
theorem int_part0 (i j : Int) (w : World) : (part 3 #[.int .i64 i, .int .i64 j] 0).run Tryz.prog w = .ok (.int .i64 i) w := by
  simp [part, isAgg, run_underlying Tryz.underlying3, Result.andThen]
theorem int_part1 (i j : Int) (w : World) : (part 3 #[.int .i64 i, .int .i64 j] 1).run Tryz.prog w = .ok (.int .i64 j) w := by
  simp [part, isAgg, run_underlying Tryz.underlying3, Result.andThen]
theorem cell_stays (w : World) (i j : Int) : (Instr.keyThatStays (keyV i j) (keyV i j)).run Tryz.prog w = .ok (keyV i j) w := by
  have h : Instr.sameBits (9998 + 1 + 1) (keyV i j) (keyV i j) = true := by simp [Instr.sameBits]
  simp [Instr.keyThatStays, h]
end Go.Proofs.YtfnopcgmlfedfaaGreatDoor

namespace Go.Proofs.YtfnopcgmlfedfaaGreatDoor
open Go.RowKit Go.ChangeMaps

/-- Block b is a map of what f says, at some places. -/
def Lks (w : World) (b : Nat) (f : Int → Int → Bool) : Prop := ∃ es clock, w.heap[b]? = some (.map es clock) ∧ ∀ x ∈ es.toList, ∃ i j, x.key = keyV i j ∧ x.val = .agg #[.bool (f i j)]
theorem Lks.made (w : World) (f : Int → Int → Bool) : Lks (w.alloc (.map #[] 0)) w.heap.size f := ⟨#[], 0, (MapKept.heap_alloc w _).1, by simp⟩
theorem Lks.of_block {w w' : World} {b : Nat} {f : Int → Int → Bool} (h : Lks w b f) (hb : w'.heap[b]? = w.heap[b]?) : Lks w' b f := by
  obtain ⟨es, c, e, k⟩ := h
  exact ⟨es, c, hb.trans e, k⟩
theorem Lks.lt {w : World} {b : Nat} {f : Int → Int → Bool} (h : Lks w b f) : b < w.heap.size := by
  obtain ⟨es, c, e, _⟩ := h
  exact (Array.getElem?_eq_some_iff.1 e).1
section
variable {P : Program} {k : TypeId} {w : World} {b : Nat} {f : Int → Int → Bool}
theorem Lks.look {t E : TypeId} (K : CellKey P k) (ht : P.underlying t = some (.map k E)) (hz : (zeroValue E).run P w = .ok (.agg #[.bool false]) w) (h : Lks w b f) (i j : Int) :
    ∃ v known : Bool, (Instr.lookup t (.map (some b)) (keyV i j) true).run P w = .ok (.tuple #[.agg #[.bool v], .bool known]) w ∧ (known = true → v = f i j) := by
  obtain ⟨es, clock, hb, hE⟩ := h
  rcases K.find w i j es.toList (fun x hx => by obtain ⟨a, c, hk, _⟩ := hE x hx; exact ⟨a, c, hk⟩) with ⟨f1, f2⟩ | ⟨n, x0, f1, f2, f3⟩
  · exact ⟨false, false, by simp [Instr.lookup, run_underlying ht, MapKept.run_getObj_map hb, K.check w _ i j, f1, hz, Result.andThen], fun e => by cases e⟩
  · obtain ⟨a, c, hk, hv⟩ := hE x0 (List.mem_of_getElem? f2)
    obtain ⟨rfl, rfl⟩ := keyV_inj (hk.symm.trans f3)
    exact ⟨f a c, true, by simp [Instr.lookup, run_underlying ht, MapKept.run_getObj_map hb, K.check w _ a c, f1, hv, Result.andThen], fun _ => rfl⟩
theorem Lks.put {t E : TypeId} (K : CellKey P k) (ht : P.underlying t = some (.map k E)) (h : Lks w b f) (i j : Int) :
    ∃ w', (Instr.mapUpdate t (.map (some b)) (keyV i j) (.agg #[.bool (f i j)])).run P w = .ok () w' ∧ Lks w' b f ∧ w.grownBy w' (some b) := by
  obtain ⟨es, clock, hb, hE⟩ := h
  have hlt : b < w.heap.size := (Array.getElem?_eq_some_iff.1 hb).1
  rcases K.find w i j es.toList (fun x hx => by obtain ⟨a, c, hk, _⟩ := hE x hx; exact ⟨a, c, hk⟩) with ⟨f1, f2⟩ | ⟨n, x0, f1, f2, f3⟩
  · refine ⟨setBlock w b (.map (es.push ⟨keyV i j, .agg #[.bool (f i j)], clock⟩) (clock + 1)), ?_, ?_, setBlock_grown hb _⟩
    · simp [Instr.mapUpdate, run_underlying ht, MapKept.run_getObj_map hb, K.check w false i j, f1, MapKept.run_setObj_map _ hb, Result.andThen, setBlock]
    · refine ⟨es.push ⟨keyV i j, .agg #[.bool (f i j)], clock⟩, clock + 1, by simp [setBlock, hlt], fun x hx => ?_⟩
      simp only [Array.toList_push, List.mem_append, List.mem_singleton] at hx
      rcases hx with hx | rfl
      · exact hE x hx
      · exact ⟨i, j, rfl, rfl⟩
  · have hj : es[n]? = some x0 := by simpa using f2
    refine ⟨setBlock w b (.map (es.modify n (fun e' => { e' with key := keyV i j, val := .agg #[.bool (f i j)] })) clock), ?_, ?_, setBlock_grown hb _⟩
    · simp [Instr.mapUpdate, run_underlying ht, MapKept.run_getObj_map hb, K.check w false i j, f1, hj, f3, K.stays w i j, MapKept.run_setObj_map _ hb, Result.andThen, setBlock]
    · refine ⟨es.modify n (fun e' => { e' with key := keyV i j, val := .agg #[.bool (f i j)] }), clock, by simp [setBlock, hlt], fun x hx => ?_⟩
      obtain ⟨m, hm⟩ := List.mem_iff_getElem?.1 hx
      rw [Array.toList_modify, List.getElem?_modify] at hm
      cases hq : es.toList[m]? with
      | none => rw [hq] at hm; simp at hm
      | some y =>
        rw [hq] at hm
        simp only [Option.map_eq_map, Option.map_some, Option.some.injEq] at hm
        split at hm
        · subst hm
          exact ⟨i, j, rfl, rfl⟩
        · subst hm
          exact hE _ (List.mem_of_getElem? hq)
end
end Go.Proofs.YtfnopcgmlfedfaaGreatDoor

namespace Go.Proofs.YtfnopcgmlfedfaaGreatDoor
open Go.RowKit Go.ChangeMaps

/-- The ten cells of the two paths. -/
abbrev twoC (q s : Int) (v : Value) (fr b q' s' : Int) (v' : Value) (fr' b' : Int) (x : List Value) : Array Value := (([.int .i64 q, .int .i64 s, v, .int .i64 fr, .int .i64 b, .int .i64 q', .int .i64 s', v', .int .i64 fr', .int .i64 b'] : List Value) ++ x).toArray
/-- All lies as it lay, but for block TB and for maps behind it. -/
structure Tk (TB : Nat) (V V' : World) : Prop where
  old : Below TB V V'
  size : V.heap.size ≤ V'.heap.size
  keep : ∀ k cs T f, k ≠ TB → V.heap[k]? = some (.cells cs T f) → V'.heap[k]? = some (.cells cs T f)
theorem Tk.refl (TB : Nat) (V : World) : Tk TB V V := ⟨Below.refl _ _, Nat.le_refl _, fun _ _ _ _ _ h => h⟩
theorem Tk.trans {TB : Nat} {A B C : World} (h : Tk TB A B) (k : Tk TB B C) : Tk TB A C := ⟨h.old.trans k.old, Nat.le_trans h.size k.size, fun i cs T f hi e => k.keep i cs T f hi (h.keep i cs T f hi e)⟩
theorem Tk.below {TB : Nat} {V V' : World} (hb : Below V.heap.size V V') (hT : TB ≤ V.heap.size) : Tk TB V V' := ⟨hb.mono hT, hb.size, fun k _cs _T _f _ e => (hb.block k (Array.getElem?_eq_some_iff.1 e).1).trans e⟩
/-- The block of the turning: made once or not yet. -/
structure Tw (f : Int → Int → Bool) (X : List Value → Array Value) (TB : Nat) (V : World) : Prop where
  it : (∃ T, V.heap[TB]? = some (.cells (X [.int .u32 0, .int .i32 0, .int .u32 0, .map none]) T (0, 0))) ∨ ∃ T mb, TB < mb ∧ V.heap[TB]? = some (.cells (X [.int .u32 1, .int .i32 0, .int .u32 0, .map (some mb)]) T (0, 0)) ∧ Lks V mb f
end Go.Proofs.YtfnopcgmlfedfaaGreatDoor

namespace Go.Proofs.YtfnopcgmlfedfaaGreatDoor
open Go.RowKit Go.ChangeMaps

theorem Tk.set {TB j : Nat} (V : World) (v : Value) : Tk TB V (V.setCell ⟨TB, j, none⟩ v) :=
  ⟨Below.setCell (Below.refl _ _) (Nat.le_refl TB) _, by simp, fun k cs T f hk e => (heap_setCell_other V ⟨TB, j, none⟩ k v hk).trans e⟩
theorem Tk.alloc {TB : Nat} (V : World) (o : Obj) (h : TB ≤ V.heap.size) : Tk TB V (V.alloc o) := Tk.below ((Below.refl _ _).alloc (Nat.le_refl _) _) h
theorem Tk.drew {TB : Nat} (V : World) (h : TB ≤ V.heap.size) : Tk TB V V.drew := Tk.below (Below.refl _ _).drew h

set_option maxHeartbeats 1000000 in
theorem do_any (f : Int → Int → Bool) (q s : Int) (v : Value) (fr b q' s' : Int) (v' : Value) (fr' b' : Int) (TB : Nat) (pl : Addr) (V : World) (h : Tw f (twoC q s v fr b q' s' v' fr' b') TB V) (hpb : ¬ TB = pl.block) (hp : V.cell? pl = some (.pointer (some ⟨TB, 0, none⟩))) :
    Calls Tryz.prog 47 #[.pointer (some ⟨TB, 10, none⟩), .func (.func 48) #[] #[.pointer (some pl)]] V fun e V' => e = .returned (.tuple #[]) ∧
      (∃ T mb, TB < mb ∧ V'.heap[TB]? = some (.cells (twoC q s v fr b q' s' v' fr' b' [.int .u32 1, .int .i32 0, .int .u32 0, .map (some mb)]) T (0, 0)) ∧ Lks V' mb f) ∧ Tk TB V V' := by
  rcases h.it with ⟨T, hT⟩ | ⟨T, mb, hlt, hT, hm⟩
  · have hTB : TB < V.heap.size := (Array.getElem?_eq_some_iff.1 hT).1
    refine (do_first TB pl hpb (.map none) V hp (by simp [World.cell?, hT]) (by simp [World.cell?, hT]) (by simp [World.cell?, hT]) (fun j => by simp [World.frozen?, hT])).mono ?_
    rintro e V' ⟨rfl, rfl⟩
    have e1 := heap_setCell_same V TB 11 _ T (.int .i32 1) hT
    have e2 : ((V.setCell ⟨TB, 11, none⟩ (.int .i32 1)).alloc (.map #[] 0)).heap[TB]? = _ := (((Below.refl (V.setCell ⟨TB, 11, none⟩ (.int .i32 1)).heap.size (V.setCell ⟨TB, 11, none⟩ (.int .i32 1))).alloc (Nat.le_refl _) (.map #[] 0)).block TB (by simpa using hTB)).trans e1
    have e3 := heap_setCell_same _ TB 13 _ T (.map (some V.heap.size)) e2
    have e4 : (((V.setCell ⟨TB, 11, none⟩ (.int .i32 1)).alloc (.map #[] 0)).setCell ⟨TB, 13, none⟩ (.map (some V.heap.size))).drew.heap[TB]? = _ := e3
    have e5 := heap_setCell_same _ TB 10 _ T (.int .u32 1) e4
    have e6 := heap_setCell_same _ TB 11 _ T (.int .i32 0) e5
    refine ⟨rfl, ⟨T, V.heap.size, hTB, ?_, ?_⟩, ?_⟩
    · rw [e6]
      simp [twoC]
    · have m0 := Lks.made (V.setCell ⟨TB, 11, none⟩ (.int .i32 1)) f
      rw [show (V.setCell ⟨TB, 11, none⟩ (.int .i32 1)).heap.size = V.heap.size by simp] at m0
      have hne : V.heap.size ≠ TB := by omega
      have m1 := m0.of_block (heap_setCell_other _ ⟨TB, 13, none⟩ V.heap.size (.map (some V.heap.size)) hne)
      have m2 := Lks.of_block (w' := (((V.setCell ⟨TB, 11, none⟩ (.int .i32 1)).alloc (.map #[] 0)).setCell ⟨TB, 13, none⟩ (.map (some V.heap.size))).drew) m1 rfl
      have m3 := m2.of_block (heap_setCell_other _ ⟨TB, 10, none⟩ V.heap.size (.int .u32 1) hne)
      exact m3.of_block (heap_setCell_other _ ⟨TB, 11, none⟩ V.heap.size (.int .i32 0) hne)
    · exact (((((Tk.set V _).trans (Tk.alloc _ _ (by simp; omega))).trans (Tk.set _ _)).trans (Tk.drew _ (by simp; omega))).trans (Tk.set _ _)).trans (Tk.set _ _)
  · refine (do_done ⟨TB, 10, none⟩ _ V (by simp [World.cell?, hT])).mono ?_
    rintro e V' ⟨rfl, rfl⟩
    exact ⟨rfl, ⟨T, mb, hlt, hT, hm⟩, Tk.refl _ _⟩
end Go.Proofs.YtfnopcgmlfedfaaGreatDoor

namespace Go.Proofs.YtfnopcgmlfedfaaGreatDoor
open Go.RowKit Go.ChangeMaps

theorem moment_check (w : World) (em : Bool) (n : Nat) (i j : Int) : (Instr.checkKey em (n + 1 + 1) 100 (keyV i j)).run Tryz.prog w = .ok () w := by
  rw [Instr.checkKey]
  simp [run_underlying Tryz.underlying100, Result.andThen, int_check, int_part0, int_part1]
theorem moment_equal (w : World) (n : Nat) (i j i' j' : Int) : (Op.equalIn (n + 1 + 1) 100 (keyV i j) (keyV i' j')).run Tryz.prog w = .ok (decide (i = i' ∧ j = j')) w := by
  rw [Op.equalIn]
  by_cases h1 : i = i'
  · by_cases h2 : j = j'
    · simp [run_underlying Tryz.underlying100, Result.andThen, int_equal, int_part0, int_part1, h1, h2]
    · simp [run_underlying Tryz.underlying100, Result.andThen, int_equal, int_part0, int_part1, h1, h2]
  · simp [run_underlying Tryz.underlying100, Result.andThen, int_equal, int_part0, h1]
theorem moment_key : CellKey Tryz.prog 100 where
  check w em i j := moment_check w em 9998 i j
  equal w i j i' j' := moment_equal w 9998 i j i' j'
  stays w i j := cell_stays w i j
  plain := ⟨_, Tryz.underlying100⟩
theorem answer_zero (w : World) : (zeroValue 102).run Tryz.prog w = .ok (.agg #[.bool false]) w := by kernel_rfl

theorem Tw.keep {f : Int → Int → Bool} {X : List Value → Array Value} {TB : Nat} {V V' : World} (h : Tw f X TB V) (hb : Below V.heap.size V V') : Tw f X TB V' := by
  rcases h.it with ⟨T, hT⟩ | ⟨T, mb, hlt, hT, hm⟩
  · exact ⟨Or.inl ⟨T, (hb.block TB (Array.getElem?_eq_some_iff.1 hT).1).trans hT⟩⟩
  · exact ⟨Or.inr ⟨T, mb, hlt, (hb.block TB (Array.getElem?_eq_some_iff.1 hT).1).trans hT, hm.of_block (hb.block mb hm.lt)⟩⟩
theorem Tw.lt {f : Int → Int → Bool} {X : List Value → Array Value} {TB : Nat} {V : World} (h : Tw f X TB V) : TB < V.heap.size := by
  rcases h.it with ⟨T, hT⟩ | ⟨T, mb, hlt, hT, hm⟩
  · exact (Array.getElem?_eq_some_iff.1 hT).1
  · exact (Array.getElem?_eq_some_iff.1 hT).1
/-- The map is there. -/
structure Tm (f : Int → Int → Bool) (X : List Value → Array Value) (TB mb : Nat) (V : World) : Prop where
  lt : TB < mb
  blk : ∃ T, V.heap[TB]? = some (.cells (X [.int .u32 1, .int .i32 0, .int .u32 0, .map (some mb)]) T (0, 0))
  map : Lks V mb f
theorem Tm.keep {f : Int → Int → Bool} {X : List Value → Array Value} {TB mb : Nat} {V V' : World} (h : Tm f X TB mb V) (hb : Below V.heap.size V V') : Tm f X TB mb V' := by
  obtain ⟨T, hT⟩ := h.blk
  exact ⟨h.lt, ⟨T, (hb.block TB (Array.getElem?_eq_some_iff.1 hT).1).trans hT⟩, h.map.of_block (hb.block mb h.map.lt)⟩
theorem Tm.tw {f : Int → Int → Bool} {X : List Value → Array Value} {TB mb : Nat} {V : World} (h : Tm f X TB mb V) : Tw f X TB V := by
  obtain ⟨T, hT⟩ := h.blk
  exact ⟨Or.inr ⟨T, mb, h.lt, hT, h.map⟩⟩

theorem Tk.grown {f : Int → Int → Bool} {TB mb : Nat} {V V' : World} (h : Lks V mb f) (hlt : TB < mb) (hg : V.grownBy V' (some mb)) : Tk TB V V' :=
  ⟨⟨hg.os, hg.tape, hg.output, hg.size, fun k hk => hg.block k (by have := h.lt; omega) (fun e => by have := Option.some.inj e; omega)⟩, hg.size, fun k cs T fr _ e => (hg.block k (Array.getElem?_eq_some_iff.1 e).1 (fun e' => by
    have e2 := Option.some.inj e'
    subst e2
    obtain ⟨es, c, he, _⟩ := h
    rw [he] at e
    cases e)).trans e⟩
theorem Tm.other {f : Int → Int → Bool} {X : List Value → Array Value} {TB mb : Nat} {V V' : World} (h : Tm f X TB mb V) (h1 : V'.heap[TB]? = V.heap[TB]?) (h2 : V'.heap[mb]? = V.heap[mb]?) : Tm f X TB mb V' := by
  obtain ⟨T, hT⟩ := h.blk
  exact ⟨h.lt, ⟨T, h1.trans hT⟩, h.map.of_block h2⟩
theorem Lks.look_all {P : Program} {k : TypeId} {w : World} {b : Nat} {f : Int → Int → Bool} {t E : TypeId} (K : CellKey P k) (ht : P.underlying t = some (.map k E)) (hz : ∀ w, (zeroValue E).run P w = .ok (.agg #[.bool false]) w) (h : Lks w b f) (i j : Int) :
    ∃ v known : Bool, (∀ w', w'.heap[b]? = w.heap[b]? → (Instr.lookup t (.map (some b)) (keyV i j) true).run P w' = .ok (.tuple #[.agg #[.bool v], .bool known]) w') ∧ (known = true → v = f i j) := by
  obtain ⟨es, clock, hb, hE⟩ := h
  have hk : ∀ e ∈ es.toList, ∃ a b, e.key = keyV a b := fun x hx => by obtain ⟨a, c, hk, _⟩ := hE x hx; exact ⟨a, c, hk⟩
  by_cases hex : ∃ x ∈ es.toList, x.key = keyV i j
  · refine ⟨f i j, true, fun w' hw => ?_, fun _ => rfl⟩
    rcases K.find w' i j es.toList hk with ⟨f1, f2⟩ | ⟨n, x0, f1, f2, f3⟩
    · obtain ⟨x, hx, e⟩ := hex
      exact absurd e (f2 x hx)
    · obtain ⟨a, c, hk, hv⟩ := hE x0 (List.mem_of_getElem? f2)
      obtain ⟨rfl, rfl⟩ := keyV_inj (hk.symm.trans f3)
      simp [Instr.lookup, run_underlying ht, MapKept.run_getObj_map (hw.trans hb), K.check w' _ a c, f1, hv, Result.andThen]
  · refine ⟨false, false, fun w' hw => ?_, fun e => by cases e⟩
    rcases K.find w' i j es.toList hk with ⟨f1, f2⟩ | ⟨n, x0, f1, f2, f3⟩
    · simp [Instr.lookup, run_underlying ht, MapKept.run_getObj_map (hw.trans hb), K.check w' _ i j, f1, hz, Result.andThen]
    · exact absurd ⟨x0, List.mem_of_getElem? f2, f3⟩ hex

section
variable (f : Int → Int → Bool) (q s : Int) (v : Value) (fr b q' s' : Int) (v' : Value) (fr' b' : Int) (TB : Nat)
set_option maxHeartbeats 4000000 in
set_option maxRecDepth 20000 in
theorem turnMay_any (Ok : World → Prop) (hOk : ∀ W W', Ok W → Tk TB W W' → Ok W') (hM : ∀ (st nw : Int) (W : World), Ok W → Calls Tryz.prog 49 #[.agg #[.int .i64 q, .int .i64 s, v, .int .i64 fr, .int .i64 b], .agg #[.int .i64 q', .int .i64 s', v', .int .i64 fr', .int .i64 b'], .int .i64 st, .int .i64 nw] W fun e w' => e = .returned (.bool (f st nw)) ∧ Below W.heap.size W w')
    (st nw : Int) (V : World) (hV : Ok V) (h : Tw f (twoC q s v fr b q' s' v' fr' b') TB V) :
    Calls Tryz.prog 34 #[.pointer (some ⟨TB, 0, none⟩), .int .i64 st, .int .i64 nw] V fun e V' => e = .returned (.bool (f st nw)) ∧ Tw f (twoC q s v fr b q' s' v' fr' b') TB V' ∧ Tk TB V V' := by
  have hmf : ∀ (fn : Fn) (first cap : Array Value) (w : World), (Instr.makeFunc fn first cap).run Tryz.prog w = .ok (.func fn first cap) w := fun _ _ _ _ => rfl
  have hlt := h.lt
  obtain ⟨V1, hV1⟩ : ∃ V1, V.alloc (.cells #[.pointer (some ⟨TB, 0, none⟩)] 44) = V1 := ⟨_, rfl⟩
  have b1 : Below V.heap.size V V1 := by rw [← hV1]; exact (Below.refl _ _).alloc (Nat.le_refl _) _
  have p1 : V1.heap[V.heap.size]? = some (.cells #[.pointer (some ⟨TB, 0, none⟩)] 44 (0, 0)) := by rw [← hV1]; exact heap_alloc_new V _
  have c1 : V1.cell? ⟨V.heap.size, 0, none⟩ = some (.pointer (some ⟨TB, 0, none⟩)) := by simp [World.cell?, p1]
  have t1 := h.keep b1
  have k1 : Tk TB V V1 := Tk.below b1 (by omega)
  have nTB : ¬ TB = V.heap.size := by omega
  go_enter Tryz.func34, Tryz.ntmps34
  go_wp2_with fail
  clear hV1
  refine (do_any f q s v fr b q' s' v' fr' b' TB ⟨V.heap.size, 0, none⟩ _ t1 nTB c1).mono ?_
  rintro e V2 ⟨rfl, ⟨T, mb, hmb, hT, hm⟩, k2⟩
  have m2 : Tm f (twoC q s v fr b q' s' v' fr' b') TB mb V2 := ⟨hmb, ⟨T, hT⟩, hm⟩
  have p2 := k2.keep _ _ _ _ (fun e => nTB e.symm) p1
  have k02 := k1.trans k2
  clear c1 t1 b1 p1 k1 k2 hT hm hmb
  obtain ⟨V3, hV3⟩ : ∃ V3, V2.alloc (.cells #[.int .i64 st, .int .i64 nw] 100) = V3 := ⟨_, rfl⟩
  have b3 : Below V2.heap.size V2 V3 := by rw [← hV3]; exact (Below.refl _ _).alloc (Nat.le_refl _) _
  have q3 : V3.heap[V2.heap.size]? = some (.cells #[.int .i64 st, .int .i64 nw] 100 (0, 0)) := by rw [← hV3]; exact heap_alloc_new V2 _
  have m3 := m2.keep b3
  have p3 : V3.heap[V.heap.size]? = some (.cells #[.pointer (some ⟨TB, 0, none⟩)] 44 (0, 0)) := (b3.block _ (Array.getElem?_eq_some_iff.1 p2).1).trans p2
  have k03 : Tk TB V V3 := k02.trans (Tk.below b3 (by have := m2.tw.lt; omega))
  clear p2 m2 b3 k02
  go_wp2
  obtain ⟨vv, kk, hlk, hkv⟩ := m3.map.look_all moment_key Tryz.underlying57 answer_zero st nw
  have l1 : V3.cell? ⟨V.heap.size, 0, none⟩ = some (.pointer (some ⟨TB, 0, none⟩)) := by simp [World.cell?, p3]
  have l2 : V3.cell? ⟨TB, 13, none⟩ = some (.map (some mb)) := by obtain ⟨T3, hT3⟩ := m3.blk; simp [World.cell?, hT3]
  have l3 : V3.cell? ⟨V2.heap.size, 0, none⟩ = some (.int .i64 st) := by simp [World.cell?, q3]
  have l4 : V3.cell? ⟨V2.heap.size, 1, none⟩ = some (.int .i64 nw) := by simp [World.cell?, q3]
  have hl1 := hlk V3.drew rfl
  have hl2 := hlk (V3.alloc (.cells #[.bool false] 102)).drew (((Below.refl V3.heap.size V3).alloc (Nat.le_refl _) _).drew.block mb m3.map.lt)
  have n1 : V.heap.size < V3.heap.size := (Array.getElem?_eq_some_iff.1 p3).1
  have n2 : TB < V3.heap.size := m3.tw.lt
  have n3 : V2.heap.size < V3.heap.size := (Array.getElem?_eq_some_iff.1 q3).1
  go_region
  all_goals
    clear hl1 hl2 hlk l1 l2 l3 l4 hV3
    obtain ⟨V4, hV4⟩ : ∃ V4, (V3.alloc (.cells #[.bool vv] 102)).drew = V4 := ⟨_, rfl⟩
    have b4 : Below V3.heap.size V3 V4 := by rw [← hV4]; exact ((Below.refl _ _).alloc (Nat.le_refl _) _).drew
    have r4 : V4.heap[V3.heap.size]? = some (.cells #[.bool vv] 102 (0, 0)) := by rw [← hV4]; exact heap_alloc_new V3 _
    have m4 := m3.keep b4
    have p4 := (b4.block _ n1).trans p3
    have q4 := (b4.block _ n3).trans q3
    have k04 := k03.trans (Tk.below b4 (by omega))
    have n4 : V3.heap.size < V4.heap.size := (Array.getElem?_eq_some_iff.1 r4).1
    have n5 : TB ≠ V3.heap.size := by omega
    have n6 : mb < V3.heap.size := m3.map.lt
    have n7 : V.heap.size ≤ V3.heap.size := k03.size
    rw [hV4]
    clear hV4 b4 m3 p3 q3 k03
    have l0 : V4.cell? ⟨V.heap.size, 0, none⟩ = some (.pointer (some ⟨TB, 0, none⟩)) := by simp [World.cell?, p4]
    have l5 : V4.cell? ⟨V3.heap.size, 0, none⟩ = some (.bool vv) := by simp [World.cell?, r4]
    cases kk
    · obtain ⟨T4, hT4⟩ := m4.blk
      have e0 : V4.cell? ⟨TB, 0, none⟩ = some (.int .i64 q) := by simp [World.cell?, hT4]
      have e1 : V4.cell? ⟨TB, 1, none⟩ = some (.int .i64 s) := by simp [World.cell?, hT4]
      have e2 : V4.cell? ⟨TB, 2, none⟩ = some (v) := by simp [World.cell?, hT4]
      have e3 : V4.cell? ⟨TB, 3, none⟩ = some (.int .i64 fr) := by simp [World.cell?, hT4]
      have e4 : V4.cell? ⟨TB, 4, none⟩ = some (.int .i64 b) := by simp [World.cell?, hT4]
      have e5 : V4.cell? ⟨TB, 5, none⟩ = some (.int .i64 q') := by simp [World.cell?, hT4]
      have e6 : V4.cell? ⟨TB, 6, none⟩ = some (.int .i64 s') := by simp [World.cell?, hT4]
      have e7 : V4.cell? ⟨TB, 7, none⟩ = some (v') := by simp [World.cell?, hT4]
      have e8 : V4.cell? ⟨TB, 8, none⟩ = some (.int .i64 fr') := by simp [World.cell?, hT4]
      have e9 : V4.cell? ⟨TB, 9, none⟩ = some (.int .i64 b') := by simp [World.cell?, hT4]
      have hO := hOk _ _ hV (k04.trans (Tk.drew V4 (by omega)))
      go_wp2
      go_region_held3 (fun w' => w'.cell? ⟨V.heap.size, 0, none⟩ = some (.pointer (some ⟨TB, 0, none⟩)) ∧ w'.cell? ⟨TB, 0, none⟩ = some (.int .i64 q) ∧ w'.cell? ⟨TB, 1, none⟩ = some (.int .i64 s) ∧ w'.cell? ⟨TB, 2, none⟩ = some (v) ∧ w'.cell? ⟨TB, 3, none⟩ = some (.int .i64 fr) ∧ w'.cell? ⟨TB, 4, none⟩ = some (.int .i64 b) ∧ w'.cell? ⟨TB, 5, none⟩ = some (.int .i64 q') ∧ w'.cell? ⟨TB, 6, none⟩ = some (.int .i64 s') ∧ w'.cell? ⟨TB, 7, none⟩ = some (v') ∧ w'.cell? ⟨TB, 8, none⟩ = some (.int .i64 fr') ∧ w'.cell? ⟨TB, 9, none⟩ = some (.int .i64 b')) (simp [go_sem, *]) (first | (go_at_call 49; refine (hM st nw _ hO).mono ?_; rintro e V5 ⟨rfl, hb5⟩; have nT : ∀ j, V5.cell? ⟨TB, j, none⟩ = V4.cell? ⟨TB, j, none⟩ := fun j => hb5.cell (p := ⟨TB, j, none⟩) (by show TB < V4.heap.size; omega); have nP : V5.cell? ⟨V.heap.size, 0, none⟩ = V4.cell? ⟨V.heap.size, 0, none⟩ := hb5.cell (p := ⟨V.heap.size, 0, none⟩) (by show V.heap.size < V4.heap.size; omega); have r5 : V5.heap[V3.heap.size]? = some (.cells #[.bool vv] 102 (0, 0)) := (hb5.block _ n4).trans r4; have l6 : V5.cell? ⟨V3.heap.size, 0, none⟩ = some (.bool vv) := (by simp [World.cell?, r5]); have l7 : V5.frozen? ⟨V3.heap.size, 0, none⟩ = false := (by simp [World.frozen?, r5])))
      have b5 : Below V4.heap.size V4 V5 := ((Below.refl V4.heap.size V4).drew).trans hb5
      have m5 := m4.keep b5
      have p5 := (b5.block _ (by omega)).trans p4
      have q5 := (b5.block _ (by omega)).trans q4
      have k05 := k04.trans (Tk.below b5 (by omega))
      obtain ⟨V6, hV6⟩ : ∃ V6, V5.setCell ⟨V3.heap.size, 0, none⟩ (.bool (f st nw)) = V6 := ⟨_, rfl⟩
      have r6 : V6.heap[V3.heap.size]? = some (.cells #[.bool (f st nw)] 102 (0, 0)) := by rw [← hV6, heap_setCell_same V5 _ 0 _ _ _ r5]; rfl
      have o6 : ∀ k, k ≠ V3.heap.size → V6.heap[k]? = V5.heap[k]? := fun k hk => by rw [← hV6]; exact heap_setCell_other V5 ⟨V3.heap.size, 0, none⟩ k _ hk
      have z6 : V6.heap.size = V5.heap.size := by rw [← hV6]; simp
      have k06 : Tk TB V V6 := ⟨by rw [← hV6]; exact Below.setCell k05.old (by show TB ≤ V3.heap.size; omega) _, by rw [z6]; exact k05.size, fun k cs T fr hk e => (o6 k (by have := (Array.getElem?_eq_some_iff.1 e).1; omega)).trans (k05.keep k cs T fr hk e)⟩
      rw [hV6]
      have m6 := m5.other (o6 TB n5) (o6 mb (by omega))
      have p6 := (o6 V.heap.size (by omega)).trans p5
      have q6 := (o6 V2.heap.size (by omega)).trans q5
      clear hV6 o6 z6 k05 p5 q5 m5 b5 hb5 nT nP r5 l6 l7 e0 e1 e2 e3 e4 e5 e6 e7 e8 e9 hT4 l0 l5 hO k04 p4 q4 m4 r4
      obtain ⟨V7, hu, u7, g7⟩ := (m6.map.of_block (w' := V6.drew) rfl).put moment_key Tryz.underlying57 st nw
      have x1 : V6.cell? ⟨V.heap.size, 0, none⟩ = some (.pointer (some ⟨TB, 0, none⟩)) := by simp [World.cell?, p6]
      have x2 : V6.cell? ⟨TB, 13, none⟩ = some (.map (some mb)) := by obtain ⟨T6, hT6⟩ := m6.blk; simp [World.cell?, hT6]
      have x3 : V6.cell? ⟨V2.heap.size, 0, none⟩ = some (.int .i64 st) := by simp [World.cell?, q6]
      have x4 : V6.cell? ⟨V2.heap.size, 1, none⟩ = some (.int .i64 nw) := by simp [World.cell?, q6]
      have x5 : V6.cell? ⟨V3.heap.size, 0, none⟩ = some (.bool (f st nw)) := by simp [World.cell?, r6]
      have r7 : V7.heap[V3.heap.size]? = some (.cells #[.bool (f st nw)] 102 (0, 0)) := (g7.block _ (Array.getElem?_eq_some_iff.1 r6).1 (fun e => by have := Option.some.inj e; omega)).trans r6
      have x6 : V7.cell? ⟨V3.heap.size, 0, none⟩ = some (.bool (f st nw)) := by simp [World.cell?, r7]
      have k07 : Tk TB V V7 := k06.trans ((Tk.drew V6 (Nat.le_of_lt m6.tw.lt)).trans (Tk.grown (m6.map.of_block (w' := V6.drew) rfl) m6.lt g7))
      have m7 : Tm f (twoC q s v fr b q' s' v' fr' b') TB mb V7 := by
        obtain ⟨T6, hT6⟩ := m6.blk
        exact ⟨m6.lt, ⟨T6, (g7.block TB m6.tw.lt (fun e => by have := Option.some.inj e; have := m6.lt; omega)).trans hT6⟩, u7⟩
      go_wp2
      go_region
      all_goals
        go_wp2
        go_ret
        exact ⟨rfl, m7.tw, k07⟩
    · obtain rfl := hkv rfl
      go_wp2
      go_ret
      exact ⟨rfl, m4.tw, k04⟩
end
end Go.Proofs.YtfnopcgmlfedfaaGreatDoor

namespace Go.Proofs.YtfnopcgmlfedfaaGreatDoor
open Go.RowKit

/-- At the first and the last of these ticks at which somebody may be in the box, all can turn. -/
def mayBx (f : Int → Int → Bool) (lo hi : Int) (k : Nat) (s : Bx) : Bool := decide (mnB hi s.out < mxB lo s.in_) || (f k (mxB lo s.in_) && f k (mnB hi s.out))
def mayTo (l : List Bx) (f : Int → Int → Bool) (lo hi : Int) (k : Nat) : Bool := (List.range k).all fun i => match l[i]? with | some s => mayBx f lo hi i s | none => true
theorem mayTo_succ {l : List Bx} {f : Int → Int → Bool} {lo hi : Int} {k : Nat} {s : Bx} (h : l[k]? = some s) : mayTo l f lo hi (k + 1) = (mayTo l f lo hi k && mayBx f lo hi k s) := by
  simp [mayTo, List.range_succ, List.all_append, h]
theorem mayTo_not {l : List Bx} {f : Int → Int → Bool} {lo hi : Int} {k : Nat} {s : Bx} (h : l[k]? = some s) (hf : mayBx f lo hi k s = false) : mayTo l f lo hi l.length = false := by
  rw [mayTo, List.all_eq_false]
  exact ⟨k, List.mem_range.2 (List.getElem?_eq_some_iff.1 h).1, by simp [h, hf]⟩
theorem Tw.lts {f : Int → Int → Bool} {X : List Value → Array Value} {TB : Nat} {V : World} (h : Tw f X TB V) : TB ≤ V.heap.size := Nat.le_of_lt h.lt

section
variable (f : Int → Int → Bool) (X : List Value → Array Value) (TB : Nat) (Ok : World → Prop)
set_option maxHeartbeats 4000000 in
set_option maxRecDepth 20000 in
theorem allMay_any (hOk : ∀ W W', Ok W → Tk TB W W' → Ok W')
    (hM : ∀ (st nw : Int) (W : World), Ok W → Tw f X TB W → Calls Tryz.prog 34 #[.pointer (some ⟨TB, 0, none⟩), .int .i64 st, .int .i64 nw] W fun e W' => e = .returned (.bool (f st nw)) ∧ Tw f X TB W' ∧ Tk TB W W')
    (a : Option Addr) (b o cap : Nat) (l : List Bx) (lo hi : Int) (V : World) (hV : Ok V) (h : Tw f X TB V) (hs : BoxesAt V a b o l) (hbT : l ≠ [] → b < TB) (hl : l.length ≤ 1048576) :
    Calls Tryz.prog 20 #[.pointer (some ⟨TB, 0, none⟩), .slice a l.length cap, .agg #[.int .i64 lo, .int .i64 hi]] V fun e V' => e = .returned (.bool (mayTo l f lo hi l.length)) ∧ Tw f X TB V' ∧ Tk TB V V' := by
  have hlt := h.lts
  go_enter Tryz.func20, Tryz.ntmps20
  go_wp2
  go_loopw [12] (fun v wr => ∃ k : Nat, k ≤ l.length ∧ v = .int .i64 k ∧ Tk TB V wr ∧ Tw f X TB wr ∧ wr.heap[V.heap.size]? = some (.cells #[.int .i64 lo, .int .i64 hi] 66 (0, 0)) ∧ mayTo l f lo hi k = true) (fun v _ => l.length - (intOf v).toNat)
  case atStart => exact ⟨0, Nat.zero_le _, rfl, Tk.alloc V _ hlt, h.keep ((Below.refl _ _).alloc (Nat.le_refl _) _), heap_alloc_new V _, rfl⟩
  case round =>
    obtain ⟨k, hk, rfl, K, T, P, hm⟩ := hrel
    by_cases hkl : k < l.length
    · obtain ⟨s, hsk⟩ : ∃ s, l[k]? = some s := ⟨l[k], List.getElem?_eq_getElem hkl⟩
      have hne : l ≠ [] := by intro e; subst e; simp at hkl
      obtain rfl := hs.here hne
      have hsz := K.size
      have hlw := T.lts
      have nP : V.heap.size < wr.heap.size := (Array.getElem?_eq_some_iff.1 P).1
      have nTB : TB ≠ V.heap.size := by have := h.lt; omega
      obtain ⟨c0, c1, c2, c3, c4, c5⟩ := (hs.below K.old hbT).six hsk
      have p0 : wr.cell? ⟨V.heap.size, 0, none⟩ = some (.int .i64 lo) := by simp [World.cell?, P]
      have p1 : wr.cell? ⟨V.heap.size, 1, none⟩ = some (.int .i64 hi) := by simp [World.cell?, P]
      have k0 : (0 : Int) ≤ (k : Int) := by omega
      have k1 : (k : Int) < (l.length : Int) := by omega
      have HS : Hid (l[k]? = some s) := hsk
      clear hsk
      go_wp2_with fail
      refine (meet_any _ _ _ _ _).mono ?_
      rintro e w2 ⟨rfl, hb2⟩
      have z2 := hb2.size
      rw [World.size_alloc] at z2
      have b2 : Below wr.heap.size wr w2 := ((Below.refl _ _).alloc (Nat.le_refl _) _).trans (hb2.mono (by simp))
      have K2 := K.trans (Tk.below b2 hlw)
      have T2 := T.keep b2
      clear c0 c1 c2 c3 c4 c5 p0 p1
      have P2 := (b2.block _ nP).trans P
      obtain ⟨L, hL⟩ : ∃ L, mxB lo s.in_ = L := ⟨_, rfl⟩
      obtain ⟨H, hH⟩ : ∃ H, mnB hi s.out = H := ⟨_, rfl⟩
      rw [hL, hH]
      have EB : Hid (mayBx f lo hi k s = (decide (H < L) || (f k L && f k H))) := by unfold Hid mayBx; rw [hL, hH]
      clear hL hH hb2 b2 P
      cases h1 : decide (H < L) with
      | true =>
        go_wp2_with fail
        refine (spanNo_val _ _ true _ h1).mono ?_
        rintro e w3 ⟨rfl, hb3⟩
        have b3 : Below w2.heap.size w2 w3 := ((Below.refl _ _).alloc (Nat.le_refl _) _).trans (hb3.mono (by simp))
        go_wp2
        go_roundw
        case rel => exact ⟨k + 1, by omega, by go_num, K2.trans (Tk.below b3 (by omega)), T2.keep b3, (b3.block _ (by omega)).trans P2, by rw [mayTo_succ HS.out, hm, EB.out, h1]; rfl⟩
        case measure => simp [intOf]; omega
      | false =>
        go_wp2_with fail
        refine (spanNo_val _ _ false _ h1).mono ?_
        rintro e w3 ⟨rfl, hb3⟩
        have b3 : Below w2.heap.size w2 w3 := ((Below.refl _ _).alloc (Nat.le_refl _) _).trans (hb3.mono (by simp))
        have R3 : w3.heap[w2.heap.size]? = some (.cells #[.int .i64 L, .int .i64 H] 66 (0, 0)) := (hb3.block _ (by simp)).trans (heap_alloc_new w2 _)
        have K3 := K2.trans (Tk.below b3 (by omega))
        have T3 := T2.keep b3
        have P3 := (b3.block _ (by omega)).trans P2
        have r0 : w3.cell? ⟨w2.heap.size, 0, none⟩ = some (.int .i64 L) := by simp [World.cell?, R3]
        clear hb3 b3
        have M1 := hM k L w3 (hOk _ _ hV K3) T3
        cases h2 : f k L with
        | false =>
          rw [h2] at M1
          go_wp2_with fail
          refine M1.mono ?_
          rintro e w4 ⟨rfl, T4, K4⟩
          go_wp2
          go_ret
          exact ⟨by rw [mayTo_not HS.out (by rw [EB.out, h1, h2]; rfl)]; rfl, T4, K3.trans K4⟩
        | true =>
          rw [h2] at M1
          go_wp2_with fail
          refine M1.mono ?_
          rintro e w4 ⟨rfl, T4, K4⟩
          have R4 := K4.keep _ _ _ _ (by omega) R3
          have P4 := K4.keep _ _ _ _ (fun e => nTB e.symm) P3
          have K04 := K3.trans K4
          have r1 : w4.cell? ⟨w2.heap.size, 1, none⟩ = some (.int .i64 H) := by simp [World.cell?, R4]
          have M2 := hM k H w4 (hOk _ _ hV K04) T4
          clear M1 r0 R3 P3 K3 T3 K4
          cases h3 : f k H with
          | false =>
            rw [h3] at M2
            go_wp2_with fail
            refine M2.mono ?_
            rintro e w5 ⟨rfl, T5, K5⟩
            go_wp2
            go_ret
            exact ⟨by rw [mayTo_not HS.out (by rw [EB.out, h1, h2, h3]; rfl)]; rfl, T5, K04.trans K5⟩
          | true =>
            rw [h3] at M2
            go_wp2_with fail
            refine M2.mono ?_
            rintro e w5 ⟨rfl, T5, K5⟩
            go_wp2
            go_roundw
            case rel => exact ⟨k + 1, by omega, by go_num, K04.trans K5, T5, K5.keep _ _ _ _ (fun e => nTB e.symm) P4, by rw [mayTo_succ HS.out, hm, EB.out, h1, h2, h3]; rfl⟩
            case measure => simp [intOf]; omega
    · obtain rfl : k = l.length := by omega
      go_wp2
      go_ret
      exact ⟨by rw [hm]; rfl, T, K⟩
end
end Go.Proofs.YtfnopcgmlfedfaaGreatDoor

namespace Go.Proofs.YtfnopcgmlfedfaaGreatDoor
open Go.RowKit

/-- The cells of a list of numbers. -/
def intCells (zs : List Int) : List Value := zs.map (.int .i64 ·)
theorem intCells_length (zs : List Int) : (intCells zs).length = zs.length := by simp [intCells]
theorem intCells_get (zs : List Int) (i : Nat) (z : Int) (h : zs[i]? = some z) : (intCells zs)[i]? = some (.int .i64 z) := by simp [intCells, h]
theorem intCells_snoc (zs : List Int) (z : Int) : intCells (zs ++ [z]) = intCells zs ++ [.int .i64 z] := by simp [intCells]
theorem intCells_one (zs : List Int) : ∀ u ∈ intCells zs, u.oneCell' = true := by
  intro u hu
  simp only [intCells, List.mem_map] at hu
  obtain ⟨z, _, rfl⟩ := hu
  rfl
theorem ints_news {w : World} {b o : Nat} {zs : List Int} {a : Option Addr} (h : IntsAt w a b o zs) : ∀ j u, (intCells zs)[j]? = some u → w.cell? ((⟨b, o, none⟩ : Addr).add j) = some u := by
  intro j u hj
  have hlt : j < zs.length := by rw [← intCells_length]; exact (List.getElem?_eq_some_iff.1 hj).1
  obtain ⟨z, hz⟩ : ∃ z, zs[j]? = some z := ⟨zs[j], List.getElem?_eq_getElem hlt⟩
  rw [intCells_get zs j z hz] at hj
  cases hj
  rw [Addr.add_mid]
  exact h.cell j z hz
theorem ints_owned {w : World} {base e : Nat} {zs : List Int} {v : Value} (h : w.ownsRow base e 1 v zs.length (intCells zs)) : ∃ a g cap, v = .slice a zs.length cap ∧ IntsAt w a g 0 zs ∧ (zs ≠ [] → v.ownBlock = some g) := by
  rcases h.2 with ⟨h1, h2⟩ | ⟨g, cap, cur, rfl, _, hh, _⟩
  · subst h1
    have e0 : zs = [] := List.eq_nil_of_length_eq_zero h2
    subst e0
    exact ⟨none, 0, 0, rfl, ⟨fun h => absurd rfl h, fun h => absurd rfl h, fun i z hi => by simp at hi⟩, fun h => absurd rfl h⟩
  · refine ⟨some ⟨g, 0, none⟩, g, cap, rfl, ⟨fun _ => rfl, fun _ => lt_of_block hh, fun i z hi => ?_⟩, fun _ => rfl⟩
    have hl : i < zs.length := (List.getElem?_eq_some_iff.1 hi).1
    rw [Nat.zero_add]
    exact (h.cellAt i (by omega)).trans (intCells_get zs i z hi)
/-- A row does not lie in a block of another type. -/
theorem row_ne {w : World} {base e size n B : Nat} {v : Value} {xs : List Value} (h : w.ownsRow base e size v n xs) {C : Array Value} {t : TypeId} (hB : w.heap[B]? = some (.cells C t (0, 0))) (hne : t ≠ e) : v.ownBlock ≠ some B := by
  intro hv
  rcases h.2 with ⟨rfl, _⟩ | ⟨g, cap, cur, rfl, _, hh, _⟩
  · cases hv
  · cases hv
    rw [hB] at hh
    cases hh
    exact hne rfl
theorem row_ne_row {w : World} {base e size n base' e' size' n' g cap : Nat} {v : Value} {xs xs' : List Value} (h : w.ownsRow base e size v n xs) (h' : w.ownsRow base' e' size' (.slice (some ⟨g, 0, none⟩) n' cap) n' xs') (hne : e' ≠ e) : v.ownBlock ≠ some g := by
  rcases h'.2 with ⟨h1, _⟩ | ⟨g', cap', cur, h1, _, hh, _⟩
  · cases h1
  · cases h1
    exact row_ne h hh hne
end Go.Proofs.YtfnopcgmlfedfaaGreatDoor

namespace Go.Proofs.YtfnopcgmlfedfaaGreatDoor
open Go.RowKit

def upTo (fr : Int) (n : Nat) : List Int := (List.range n).map fun (j : Nat) => fr + (j : Int)
theorem upTo_length (fr : Int) (n : Nat) : (upTo fr n).length = n := by simp [upTo]
theorem upTo_succ (fr : Int) (n : Nat) : upTo fr (n + 1) = upTo fr n ++ [fr + (n : Int)] := by simp [upTo, List.range_succ]
theorem upTo_at (fr : Int) {n j : Nat} (h : j < n) : (upTo fr n)[j]? = some (fr + (j : Int)) := by simp [upTo, h]
def ticksL (l : List Bx) (fr : Int) : List Int := match l[0]?, l[l.length - 1]? with
  | some s, some t => if fr < s.in_ then [] else upTo fr (t.out - fr + 1).toNat
  | _, _ => []

set_option maxRecDepth 20000 in
set_option maxHeartbeats 2000000 in
theorem ticks_any (a : Option Addr) (b o cap : Nat) (l : List Bx) (fr : Int) (V : World) (hl : l.length ≤ 1048576) (hs : BoxesAt V a b o l) (hb : ∀ x ∈ l, 0 ≤ x.in_ ∧ x.out ≤ 9999) :
    Calls Tryz.prog 18 #[.slice a l.length cap, .int .i64 fr] V fun e V' => ∃ v, e = .returned v ∧ V'.ownsRow V.heap.size 3 1 v (ticksL l fr).length (intCells (ticksL l fr)) ∧ Below V.heap.size V V' := by
  obtain ⟨i0, hi, hz0, hz1, hz2⟩ := info_parts int_info
  cases hm : l.length with
  | zero =>
    obtain rfl := List.length_eq_zero_iff.1 hm
    clear hm
    go_enter Tryz.func18, Tryz.ntmps18
    go_wp2
    go_ret
    exact ⟨_, rfl, World.ownsRow_nil _ _ _ _, Below.refl _ _⟩
  | succ m =>
    obtain ⟨s, hs0⟩ : ∃ s, l[0]? = some s := ⟨l[0], List.getElem?_eq_getElem (by omega)⟩
    obtain ⟨t, ht0⟩ : ∃ t, l[m]? = some t := ⟨l[m], List.getElem?_eq_getElem (by omega)⟩
    have hne : l ≠ [] := by intro e; subst e; simp at hm
    have E : Hid (ticksL l fr = if fr < s.in_ then [] else upTo fr (t.out - fr + 1).toNat) := by unfold Hid ticksL; rw [hm, Nat.add_sub_cancel, hs0, ht0]
    obtain rfl := hs.here hne
    obtain ⟨_, _, _, _, c4, _⟩ := hs.six hs0
    obtain ⟨_, _, _, _, _, d5⟩ := hs.six ht0
    rw [Nat.zero_mul, Nat.add_zero] at c4
    have hbs := (hb s (List.mem_of_getElem? hs0)).1
    have hbt := (hb t (List.mem_of_getElem? ht0)).2
    have hbl := hs.lt hne
    rw [E.out]
    have hml : m + 1 ≤ 1048576 := by omega
    clear hs0 ht0 hne E hs hb hm hl
    by_cases hfr : fr < s.in_
    · rw [if_pos hfr]
      go_enter Tryz.func18, Tryz.ntmps18
      go_wp2
      go_ret
      exact ⟨_, rfl, World.ownsRow_nil _ _ _ _, Below.refl _ _⟩
    · rw [if_neg hfr]
      obtain ⟨n, hn⟩ : ∃ n, (t.out - fr + 1).toNat = n := ⟨_, rfl⟩
      rw [hn]
      go_enter Tryz.func18, Tryz.ntmps18
      go_wp2
      go_loopw [5, 6] (fun v u wr => ∃ k : Nat, k ≤ n ∧ u = .int .i64 (fr + (k : Int)) ∧ Below V.heap.size V wr ∧ wr.ownsRow V.heap.size 3 1 v k (intCells (upTo fr k))) (fun _ u _ => n - (intOf u - fr).toNat)
      case atStart => exact ⟨0, Nat.zero_le _, by simp, Below.refl _ _, World.ownsRow_nil _ _ _ _⟩
      case round =>
        obtain ⟨k, hk, rfl, hbw, hown⟩ := hrel
        have d5' : wr.cell? ⟨b, o + m * 6 + 5, none⟩ = some (.int .i64 t.out) := (hbw.cell (p := ⟨b, o + m * 6 + 5, none⟩) hbl).trans d5
        have hzz := hbw.size
        by_cases hkn : k < n
        · have hle : fr + (k : Int) ≤ t.out := by omega
          go_wp2_with (at_builtin; (refine wpList_append_own _ rfl _ _ 62 rfl V.heap.size 3 i0 (.int .i64 0) 1 8 Tryz.underlying62 hi hz0 hz1 hz2 rfl (by decide) _ k (intCells (upTo fr k)) rfl (hown.alloc _) ⟨wr.heap.size, 0, none⟩ 1 1 [.int .i64 (fr + (k : Int))] rfl rfl ?_ (by simp [Value.oneCell']) (by unfold maxLen; omega) (by omega) (by simp; omega) ?_); (intro j u hj; match j, hj with | 0, hj => (simp at hj; subst hj; simp [Addr.add, go_sem])); intro v' w3 hown' hgrow _)
          have hbel : Below V.heap.size wr w3 := ((Below.refl V.heap.size wr).alloc hzz _).grown hgrow (by simp; omega) (owns_base hown)
          refine ⟨⟨k + 1, by omega, by rw [show fr + (k : Int) + 1 = fr + ((k + 1 : Nat) : Int) by omega], hbw.trans hbel, ?_⟩, ?_⟩
          · rw [upTo_succ, intCells_snoc]
            exact hown'
          · simp only [intOf]
            omega
        · obtain rfl : k = n := by omega
          have hle : t.out < fr + (k : Int) := by omega
          go_wp2
          go_ret
          exact ⟨_, rfl, by rw [upTo_length]; exact hown, hbw⟩
end Go.Proofs.YtfnopcgmlfedfaaGreatDoor

namespace Go.Proofs.YtfnopcgmlfedfaaGreatDoor
open Go.RowKit

theorem turnTo_iff {tb : List Bx} {g : Nat → Bool} {t : Int} : turnTo tb g t tb.length = true ↔ ∀ i x, tb[i]? = some x → inB t x.in_ x.out = true → g i = true := by
  rw [turnTo, List.all_eq_true]
  constructor
  · intro h i x hx hi
    have := h i (List.mem_range.2 (List.getElem?_eq_some_iff.1 hx).1)
    simpa [hx, hi] using this
  · intro h i hi
    have hx := List.getElem?_eq_getElem (List.mem_range.1 hi)
    rw [hx]
    cases hb : inB t (tb[i]'(List.mem_range.1 hi)).in_ (tb[i]'(List.mem_range.1 hi)).out with
    | false => simp [hb]
    | true => simp [hb, h i _ hx hb]
theorem mayTo_iff {tb : List Bx} {f : Int → Int → Bool} {lo hi : Int} : mayTo tb f lo hi tb.length = true ↔ ∀ i x, tb[i]? = some x → mayBx f lo hi i x = true := by
  rw [mayTo, List.all_eq_true]
  constructor
  · intro h i x hx
    have := h i (List.mem_range.2 (List.getElem?_eq_some_iff.1 hx).1)
    simpa [hx] using this
  · intro h i hi
    have hx := List.getElem?_eq_getElem (List.mem_range.1 hi)
    rw [hx]
    exact h i _ hx
section
variable {tb : List Bx} {f : Int → Int → Bool} {f0 t : Int}
theorem may_all (hgap : ∀ k t1 t2 t3, f k t1 = true → f k t3 = true → t1 ≤ t2 → t2 ≤ t3 → f k t2 = true) (h : mayTo tb f f0 t tb.length = true) {u : Int} (h1 : f0 ≤ u) (h2 : u ≤ t) : turnTo tb (fun k => f k u) u tb.length = true := by
  refine turnTo_iff.2 fun i x hx hi => ?_
  have hm := mayTo_iff.1 h i x hx
  rw [inB_iff] at hi
  unfold mayBx at hm
  simp only [Bool.or_eq_true, Bool.and_eq_true, decide_eq_true_eq] at hm
  have m1 := mxB_le f0 x.in_
  have m2 := mnB_le t x.out
  have m3 : mxB f0 x.in_ ≤ u := by unfold mxB; split <;> omega
  have m4 : u ≤ mnB t x.out := by unfold mnB; split <;> omega
  rcases hm with hm | ⟨ha, hc⟩
  · omega
  · exact hgap _ _ _ _ ha hc m3 m4
theorem all_may (h : ∀ u, f0 ≤ u → u ≤ t → turnTo tb (fun k => f k u) u tb.length = true) : mayTo tb f f0 t tb.length = true := by
  refine mayTo_iff.2 fun i x hx => ?_
  unfold mayBx
  simp only [Bool.or_eq_true, Bool.and_eq_true, decide_eq_true_eq]
  have m1 := mxB_le f0 x.in_
  have m2 := mnB_le t x.out
  by_cases hc : mnB t x.out < mxB f0 x.in_
  · exact Or.inl hc
  · right
    constructor
    · exact turnTo_iff.1 (h (mxB f0 x.in_) (by omega) (by omega)) i x hx ((inB_iff _ _ _).2 (by omega))
    · exact turnTo_iff.1 (h (mnB t x.out) (by omega) (by omega)) i x hx ((inB_iff _ _ _).2 (by omega))

/-- One behind the other, without a gap. -/
structure Row (tb : List Bx) : Prop where
  mono : ∀ (i j : Nat) (x y : Bx), tb[i]? = some x → tb[j]? = some y → i ≤ j → x.in_ ≤ y.in_ ∧ x.out ≤ y.out
  gap : ∀ (i : Nat) (x y : Bx), tb[i]? = some x → tb[i + 1]? = some y → y.in_ ≤ x.out + 1
theorem Row.cover (R : Row tb) {s : Bx} (hs : tb[0]? = some s) (h1 : s.in_ ≤ t) : ∀ (i : Nat) (x : Bx), tb[i]? = some x → t ≤ x.out → ∃ y ∈ tb, inB t y.in_ y.out = true
  | 0, x, hx, h => by
    obtain rfl := Option.some.inj (hs.symm.trans hx)
    exact ⟨s, List.mem_of_getElem? hx, (inB_iff _ _ _).2 ⟨h1, h⟩⟩
  | i + 1, x, hx, h => by
    have hi := (List.getElem?_eq_some_iff.1 hx).1
    have hy := List.getElem?_eq_getElem (show i < tb.length by omega)
    by_cases hc : t ≤ (tb[i]'(by omega)).out
    · exact R.cover hs h1 i _ hy hc
    · have := R.gap i _ x hy hx
      exact ⟨x, List.mem_of_getElem? hx, (inB_iff _ _ _).2 ⟨by omega, h⟩⟩
theorem allT_not {g : Nat → Bool} (h : ∀ x ∈ tb, inB t x.in_ x.out = false) : allT tb g t = false := by
  unfold allT
  rw [Bool.and_eq_false_iff]
  right
  rw [List.any_eq_false]
  intro x hx
  simp [h x hx]
theorem turn_found (R : Row tb) (hgap : ∀ k t1 t2 t3, f k t1 = true → f k t3 = true → t1 ≤ t2 → t2 ≤ t3 → f k t2 = true) {k : Nat} (hk : k ≤ (ticksL tb f0).length)
    (h1 : ∀ j, j + 1 = k → mayTo tb f f0 ((ticksL tb f0).getD j 0) tb.length = true) (h2 : k < (ticksL tb f0).length → mayTo tb f f0 ((ticksL tb f0).getD k 0) tb.length = false) :
    TurnIs (fun t => allT tb (fun k => f k t) t) f0 (if k = 0 then -1 else (ticksL tb f0).getD (k - 1) 0) := by
  cases htb : tb.length with
  | zero =>
    obtain rfl := List.length_eq_zero_iff.1 htb
    have hk0 : k = 0 := by simpa [ticksL] using hk
    exact ⟨0, fun j h => by omega, allT_not (by simp), by rw [if_pos hk0, if_pos rfl]⟩
  | succ m =>
    obtain ⟨s, hs⟩ : ∃ s, tb[0]? = some s := ⟨tb[0], List.getElem?_eq_getElem (by omega)⟩
    obtain ⟨e, he⟩ : ∃ e, tb[m]? = some e := ⟨tb[m], List.getElem?_eq_getElem (by omega)⟩
    have ET : ticksL tb f0 = if f0 < s.in_ then [] else upTo f0 (e.out - f0 + 1).toNat := by unfold ticksL; rw [htb, Nat.add_sub_cancel, hs, he]
    by_cases hf : f0 < s.in_
    · rw [ET, if_pos hf] at hk
      have hk0 : k = 0 := by simpa using hk
      refine ⟨0, fun j h => by omega, allT_not (fun x hx => ?_), by rw [if_pos hk0, if_pos rfl]⟩
      obtain ⟨i, hi⟩ := List.mem_iff_getElem?.1 hx
      have := (R.mono 0 i s x hs hi (by omega)).1
      cases hb : inB (f0 + ((0 : Nat) : Int)) x.in_ x.out with
      | false => rfl
      | true => rw [inB_iff] at hb; omega
    · rw [ET, if_neg hf] at hk h1 h2 ⊢
      obtain ⟨n, hn⟩ : ∃ n, (e.out - f0 + 1).toNat = n := ⟨_, rfl⟩
      rw [hn] at hk h1 h2 ⊢
      rw [upTo_length] at hk h2
      have at_ : ∀ j, j < n → (upTo f0 n).getD j 0 = f0 + (j : Int) := fun j hj => by rw [List.getD_eq_getElem?_getD, upTo_at _ hj]; rfl
      have any_ : ∀ j : Nat, j < n → (tb.any fun x => inB (f0 + (j : Int)) x.in_ x.out) = true := fun j hj => by
        obtain ⟨y, hy, hi⟩ := R.cover hs (t := f0 + (j : Int)) (by omega) m e he (by omega)
        exact List.any_eq_true.2 ⟨y, hy, hi⟩
      have up : ∀ j : Nat, j < k → allT tb (fun i => f i (f0 + (j : Int))) (f0 + (j : Int)) = true := fun j hj => by
        have hm := h1 (k - 1) (by omega)
        rw [at_ (k - 1) (by omega)] at hm
        unfold allT
        rw [may_all hgap hm (by omega) (by omega), any_ j (by omega)]
        rfl
      refine ⟨k, up, ?_, ?_⟩
      · by_cases hkn : k < n
        · have hm := h2 hkn
          rw [at_ k hkn] at hm
          show allT tb (fun i => f i (f0 + (k : Int))) (f0 + (k : Int)) = false
          cases hc : turnTo tb (fun i => f i (f0 + (k : Int))) (f0 + (k : Int)) tb.length with
          | false => unfold allT; rw [hc]; rfl
          | true =>
            rw [all_may (fun u hu1 hu2 => ?_)] at hm
            · cases hm
            · by_cases hu : u = f0 + (k : Int)
              · rw [hu]; exact hc
              · obtain ⟨j, hj⟩ : ∃ j : Nat, u = f0 + (j : Int) := ⟨(u - f0).toNat, by omega⟩
                have := up j (by omega)
                unfold allT at this
                rw [Bool.and_eq_true] at this
                rw [hj]
                exact this.1
        · refine allT_not (fun x hx => ?_)
          obtain ⟨i, hi⟩ := List.mem_iff_getElem?.1 hx
          have := (R.mono i m x e hi he (by have := (List.getElem?_eq_some_iff.1 hi).1; omega)).2
          cases hb : inB (f0 + (k : Int)) x.in_ x.out with
          | false => rfl
          | true => rw [inB_iff] at hb; omega
      · by_cases hk0 : k = 0
        · rw [if_pos hk0, if_pos hk0]
        · rw [if_neg hk0, if_neg hk0, at_ (k - 1) (by omega)]
          omega
end
section
variable {q s fr b q' s' fr' b' : Int} {l l' : List Stp}
theorem spans_mono (hf : flyB q s fr b l = true) {i : Nat} : ∀ d : Nat, i + d ≤ l.length → (spanAt q s fr b l l.length i).1 ≤ (spanAt q s fr b l l.length (i + d)).1 ∧ (spanAt q s fr b l l.length i).2 ≤ (spanAt q s fr b l l.length (i + d)).2
  | 0, _ => ⟨Int.le_refl _, Int.le_refl _⟩
  | d + 1, h => by
    obtain ⟨hp, hpf, _⟩ := flyL_at hf
    have hm : ∀ k, q ≤ mostB s l k := fun k => most_quick hp k
    have a := spans_mono hf (i := i) d (by omega)
    have c1 := (first_keeps hm hpf).2 (i + d) (Nat.zero_le _) (by omega)
    have c2 := (last_keeps hm hpf).2 (i + d) (Nat.zero_le _) (by omega)
    have kr := kind_range hp
    dsimp only at c1 c2
    rw [show i + (d + 1) = i + d + 1 by omega]
    omega
theorem tube_row (q s fr b : Int) (l : List Stp) : Row (tubeL q s fr b l) where
  mono i j x y hx hy hij := by
    obtain ⟨hf, h1, e1, e2⟩ := tube_box hx
    obtain ⟨_, h3, e3, e4⟩ := tube_box hy
    have a := spans_mono hf (i := i) (j - i) (by omega)
    have c := spans_mono hf (i := i + 1) (j - i) (by omega)
    rw [show i + (j - i) = j by omega] at a
    rw [show i + 1 + (j - i) = j + 1 by omega] at c
    omega
  gap i x y hx hy := by
    obtain ⟨hf, h1, e1, e2⟩ := tube_box hx
    obtain ⟨_, h3, e3, e4⟩ := tube_box hy
    have := fly_win hf (k := i + 1) (by omega)
    omega
theorem tube_bounds (q s fr b : Int) (l : List Stp) : ∀ x ∈ tubeL q s fr b l, 0 ≤ x.in_ ∧ x.out ≤ 9999 := fun x hx => by
  obtain ⟨k, hk⟩ := List.mem_iff_getElem?.1 hx
  obtain ⟨hf, hkl, e1, e2⟩ := tube_box hk
  have w1 := fly_win hf (k := k) (by omega)
  have w2 := fly_win hf (k := k + 1) (by omega)
  obtain ⟨hp, _, _⟩ := flyL_at hf
  have b1 := bounds_ok hp k
  have b2 := bounds_ok hp (k + 1)
  omega
end
end Go.Proofs.YtfnopcgmlfedfaaGreatDoor

namespace Go.Proofs.YtfnopcgmlfedfaaGreatDoor
open Go.RowKit

set_option maxHeartbeats 4000000 in
set_option maxRecDepth 20000 in
theorem search_any (g : Nat) (cb : Array Value) (n : Nat) (p : Nat → Bool) (I : World → Prop) (eg : ∀ args w, (callFunc g args).run Tryz.prog w = .ok (.enter g args) w) (hn : n < 4611686018427387904)
    (hf : ∀ (i : Nat) (W : World), i < n → I W → Calls Tryz.prog g (#[.int .i64 i] ++ cb) W fun e W' => e = .returned (.bool (p i)) ∧ I W') (V : World) (hV : I V) :
    Calls Tryz.prog 30 #[.int .i64 n, .func (.func g) #[] cb] V fun e V' => ∃ k : Nat, k ≤ n ∧ e = .returned (.int .i64 k) ∧ I V' ∧ (∀ j, j + 1 = k → p j = false) ∧ (k < n → p k = true) := by
  have HF : Hid (∀ (i : Nat) (W : World), i < n → I W → Calls Tryz.prog g (#[.int .i64 i] ++ cb) W fun e W' => e = .returned (.bool (p i)) ∧ I W') := hf
  clear hf
  go_enter Tryz.func30, Tryz.ntmps30
  go_wp2
  go_loopw [5, 6] (fun s5 s6 wr => ∃ lo hi : Nat, s5 = .int .i64 lo ∧ s6 = .int .i64 hi ∧ lo ≤ hi ∧ hi ≤ n ∧ I wr ∧ Hid ((∀ j, j + 1 = lo → p j = false) ∧ (hi < n → p hi = true))) (fun s5 s6 _ => (intOf s6).toNat - (intOf s5).toNat)
  case atStart => exact ⟨0, n, rfl, rfl, Nat.zero_le _, Nat.le_refl _, hV, (⟨fun j h => by omega, fun h => by omega⟩ : (∀ j, j + 1 = 0 → p j = false) ∧ (n < n → p n = true))⟩
  case round =>
    obtain ⟨lo, hi, rfl, rfl, hlh, hin, hI, J⟩ := hrel
    by_cases hlt : lo < hi
    · have hc := HF.out ((lo + hi) / 2) wr (by omega) hI
      rw [show (((lo + hi) / 2 : Nat) : Int) = ((lo : Int) + (hi : Int)) / 2 by omega] at hc
      cases hp : p ((lo + hi) / 2) <;> rw [hp] at hc
      · have HP : Hid (p ((lo + hi) / 2) = false) := hp
        clear hp
        go_wp2_with fail
        refine hc.mono ?_
        rintro e w' ⟨rfl, hI'⟩
        go_wp2
        go_roundw
        case rel => exact ⟨(lo + hi) / 2 + 1, hi, by rw [show ((lo : Int) + (hi : Int)) / 2 + 1 = (((lo + hi) / 2 + 1 : Nat) : Int) by omega], rfl, by omega, hin, hI', (⟨fun j h => by rw [show j = (lo + hi) / 2 by omega]; exact HP.out, J.out.2⟩ : (∀ j, j + 1 = (lo + hi) / 2 + 1 → p j = false) ∧ (hi < n → p hi = true))⟩
        case measure => simp [intOf]; omega
      · have HP : Hid (p ((lo + hi) / 2) = true) := hp
        clear hp
        go_wp2_with fail
        refine hc.mono ?_
        rintro e w' ⟨rfl, hI'⟩
        go_wp2
        go_roundw
        case rel => exact ⟨lo, (lo + hi) / 2, rfl, by rw [show ((lo : Int) + (hi : Int)) / 2 = (((lo + hi) / 2 : Nat) : Int) by omega], by omega, by omega, hI', (⟨J.out.1, fun _ => HP.out⟩ : (∀ j, j + 1 = lo → p j = false) ∧ ((lo + hi) / 2 < n → p ((lo + hi) / 2) = true))⟩
        case measure => simp [intOf]; omega
    · obtain rfl : hi = lo := by omega
      go_wp2
      go_ret
      exact ⟨hi, hin, rfl, hI, J.out.1, J.out.2⟩
end Go.Proofs.YtfnopcgmlfedfaaGreatDoor

namespace Go.Proofs.YtfnopcgmlfedfaaGreatDoor
open Go.RowKit

section
variable (g : Nat) (cb : Array Value) (eg : ∀ args w, (callFunc g args).run Tryz.prog w = .ok (.enter g args) w) (h : Int → Bool) (zs : List Int) (a : Option Addr) (rb ro cap : Nat)
include eg
set_option maxHeartbeats 2000000 in
set_option maxRecDepth 20000 in
theorem lastClo_any (B1 B2 : Nat) (I : World → Prop) (h1 : ∀ W, I W → W.cell? ⟨B1, 0, none⟩ = some (.func (.func g) #[] cb)) (h2 : ∀ W, I W → W.cell? ⟨B2, 0, none⟩ = some (.slice a zs.length cap)) (h3 : ∀ W, I W → IntsAt W a rb ro zs) (h4 : ∀ W, I W → I W.drew)
    (hf : ∀ (z : Int) (W : World), z ∈ zs → I W → Calls Tryz.prog g (#[.int .i64 z] ++ cb) W fun e W' => e = .returned (.bool (h z)) ∧ I W')
    (i : Nat) (W : World) (hi : i < zs.length) (hW : I W) :
    Calls Tryz.prog 31 (#[.int .i64 i] ++ #[.pointer (some ⟨B1, 0, none⟩), .pointer (some ⟨B2, 0, none⟩)]) W fun e W' => e = .returned (.bool (!h (zs.getD i 0))) ∧ I W' := by
  obtain ⟨z, hz⟩ : ∃ z, zs[i]? = some z := ⟨zs[i], List.getElem?_eq_getElem hi⟩
  have hgz : zs.getD i 0 = z := by rw [List.getD_eq_getElem?_getD, hz]; rfl
  have hne : zs ≠ [] := by intro e; subst e; simp at hi
  obtain rfl := (h3 W hW).here hne
  have c1 := h1 W hW
  have c2 := h2 W hW
  have c3 := (h3 W hW).cell i z hz
  have k0 : (0 : Int) ≤ (i : Int) := by omega
  have k1 : (i : Int) < (zs.length : Int) := by omega
  have hc := hf z W.drew (List.mem_of_getElem? hz) (h4 W hW)
  rw [hgz]
  have HZ : Hid (zs[i]? = some z) := hz
  clear hz hgz
  go_enter Tryz.func31, Tryz.ntmps31
  go_wp2
  go_region_held3 (fun w' => w'.cell? ⟨B1, 0, none⟩ = some (.func (.func g) #[] cb) ∧ w'.cell? ⟨B2, 0, none⟩ = some (.slice (some ⟨rb, ro, none⟩) zs.length cap) ∧ w'.cell? ⟨rb, ro + i, none⟩ = some (.int .i64 z)) (simp [go_sem, *])
    (first | (refine hc.mono ?_; rintro e W1 ⟨rfl, hI1⟩; have d1 := h1 W1 hI1; have d2 := h2 W1 hI1; have d3 := (h3 W1 hI1).cell i z HZ.out))
  go_wp2
  go_ret
  exact ⟨rfl, hI1⟩

set_option maxHeartbeats 4000000 in
set_option maxRecDepth 20000 in
theorem lastTrue_any (TB : Nat) (I : World → Prop) (h3 : ∀ W, I W → IntsAt W a rb ro zs) (h4 : ∀ W W', I W → Below W.heap.size W W' → I W') (hTB : ∀ W, I W → TB < W.heap.size)
    (hf : ∀ (z : Int) (W : World), z ∈ zs → I W → Calls Tryz.prog g (#[.int .i64 z] ++ cb) W fun e W' => e = .returned (.bool (h z)) ∧ I W' ∧ Tk TB W W') (hl : zs.length ≤ 1048576) (V : World) (hV : I V) :
    Calls Tryz.prog 17 #[.slice a zs.length cap, .func (.func g) #[] cb] V fun e V' => ∃ k : Nat, k ≤ zs.length ∧ e = .returned (.tuple #[.int .i64 (if k = 0 then 0 else zs.getD (k - 1) 0), .bool (!decide (k = 0))]) ∧ (∀ j, j + 1 = k → h (zs.getD j 0) = true) ∧ (k < zs.length → h (zs.getD k 0) = false) ∧ I V' ∧ Tk TB V V' := by
  have hlt := hTB V hV
  obtain ⟨V1, hV1⟩ : ∃ V1, (V.alloc (.cells #[.slice a zs.length cap] 62)).alloc (.cells #[.func (.func g) #[] cb] 67) = V1 := ⟨_, rfl⟩
  have b1 : Below V.heap.size V V1 := by rw [← hV1]; exact ((Below.refl _ _).alloc (Nat.le_refl _) _).alloc (by simp) _
  have x1 : V1.heap[V.heap.size]? = some (.cells #[.slice a zs.length cap] 62 (0, 0)) := by
    rw [← hV1]
    exact (((Below.refl _ _).alloc (Nat.le_refl _) _).block _ (by simp)).trans (heap_alloc_new V _)
  have x2 : V1.heap[V.heap.size + 1]? = some (.cells #[.func (.func g) #[] cb] 67 (0, 0)) := by
    rw [← hV1]
    have := heap_alloc_new (V.alloc (.cells #[.slice a zs.length cap] 62)) (.cells #[.func (.func g) #[] cb] 67)
    rwa [World.size_alloc] at this
  have y1 : V1.cell? ⟨V.heap.size, 0, none⟩ = some (.slice a zs.length cap) := by simp [World.cell?, x1]
  have n1 : V.heap.size ≠ TB := by omega
  have n2 : V.heap.size + 1 ≠ TB := by omega
  have S := search_any 31 #[.pointer (some ⟨V.heap.size + 1, 0, none⟩), .pointer (some ⟨V.heap.size, 0, none⟩)] zs.length (fun i => !h (zs.getD i 0)) (fun W => I W ∧ Tk TB V W ∧ W.heap[V.heap.size]? = some (.cells #[.slice a zs.length cap] 62 (0, 0)) ∧ W.heap[V.heap.size + 1]? = some (.cells #[.func (.func g) #[] cb] 67 (0, 0))) (fun _ _ => by kernel_rfl) (by omega)
    (fun i W hi hW => lastClo_any g cb eg h zs a rb ro cap (V.heap.size + 1) V.heap.size (fun W => I W ∧ Tk TB V W ∧ W.heap[V.heap.size]? = some (.cells #[.slice a zs.length cap] 62 (0, 0)) ∧ W.heap[V.heap.size + 1]? = some (.cells #[.func (.func g) #[] cb] 67 (0, 0)))
      (fun W hW => by simp [World.cell?, hW.2.2.2]) (fun W hW => by simp [World.cell?, hW.2.2.1]) (fun W hW => h3 W hW.1) (fun W hW => ⟨h4 _ _ hW.1 (Below.refl _ _).drew, hW.2.1.trans (Tk.drew W (Nat.le_of_lt (hTB _ hW.1))), hW.2.2.1, hW.2.2.2⟩)
      (fun z W hz hW => (hf z W hz hW.1).mono fun e W' hh => ⟨hh.1, hh.2.1, hW.2.1.trans hh.2.2, hh.2.2.keep _ _ _ _ n1 hW.2.2.1, hh.2.2.keep _ _ _ _ n2 hW.2.2.2⟩) i W hi hW)
    V1 ⟨h4 _ _ hV b1, Tk.below b1 (by omega), x1, x2⟩
  have hmf : ∀ (fn : Fn) (first cap : Array Value) (w : World), (Instr.makeFunc fn first cap).run Tryz.prog w = .ok (.func fn first cap) w := fun _ _ _ _ => rfl
  go_enter Tryz.func17, Tryz.ntmps17
  go_wp2_with fail
  refine S.mono ?_
  rintro e V2 ⟨k, hk, rfl, ⟨hI, hT, hx1, _⟩, hj, hkk⟩
  have HJ : Hid ((∀ j, j + 1 = k → h (zs.getD j 0) = true) ∧ (k < zs.length → h (zs.getD k 0) = false)) := ⟨fun j e => by simpa using hj j e, fun e => by simpa using hkk e⟩
  clear S hV1 b1 x1 x2 y1 hf h4 hj hkk hmf
  have y2 : V2.cell? ⟨V.heap.size, 0, none⟩ = some (.slice a zs.length cap) := by simp [World.cell?, hx1]
  cases k with
  | zero =>
    go_wp2
    refine bodyPost_ret (v := .tuple #[.int .i64 0, .bool false]) (by simp [results, Tryz.results17, go_sem]) rfl ?_
    exact ⟨0, hk, rfl, HJ.out.1, HJ.out.2, hI, hT⟩
  | succ k =>
    have hne : zs ≠ [] := by intro e; subst e; simp at hk
    obtain ⟨z, hz⟩ : ∃ z, zs[k]? = some z := ⟨zs[k], List.getElem?_eq_getElem (by omega)⟩
    have hgz : zs.getD k 0 = z := by rw [List.getD_eq_getElem?_getD, hz]; rfl
    obtain rfl := (h3 V2 hI).here hne
    have c3 := (h3 V2 hI).cell k z hz
    rw [show ((k + 1 : Nat) : Int) = (k : Int) + 1 by omega]
    have k1 : (k : Int) < (zs.length : Int) := by omega
    have k2 : (zs.length : Int) ≤ 1048576 := by omega
    have k3 : (0 : Int) ≤ (k : Int) := by omega
    clear hz
    go_wp2
    refine bodyPost_ret (v := .tuple #[.int .i64 z, .bool true]) (by simp [results, Tryz.results17, go_sem]) rfl ?_
    exact ⟨k + 1, hk, by simp only [Nat.add_sub_cancel, hgz]; rfl, HJ.out.1, HJ.out.2, hI, hT⟩
end
end Go.Proofs.YtfnopcgmlfedfaaGreatDoor

namespace Go.Proofs.YtfnopcgmlfedfaaGreatDoor
open Go.RowKit

set_option maxRecDepth 20000 in
set_option maxHeartbeats 4000000 in
theorem seenOf_any (hI : SpansSaid) (q s fr b st nw : Int) (a : Option Addr) (b0 o cap : Nat) (l : List Stp) (w : World) (hl : l.length ≤ 1048576) (hs : StepsAt w a b0 o l) (hcap : l.length ≤ cap) :
    Calls Tryz.prog 84 #[.agg #[.int .i64 q, .int .i64 s, .slice a l.length cap, .int .i64 fr, .int .i64 b], .int .i64 st, .int .i64 nw] w (Hands (seenA q s fr b l st nw) w) := by
  have Q0 := PathAt.new w q s fr b (.slice a l.length cap)
  have P0 := PathAt.new (w.alloc (.cells #[.int .i64 q, .int .i64 s, .slice a l.length cap, .int .i64 fr, .int .i64 b] 32)) 0 0 0 0 (.slice none 0 0)
  rw [World.size_alloc] at P0
  have Q1 := Q0.keep ((Below.refl _ _).alloc (Nat.le_refl _) (.cells #[.int .i64 0, .int .i64 0, .slice none 0 0, .int .i64 0, .int .i64 0] 32)) Q0.lt
  have B0 : Below w.heap.size w ((w.alloc (.cells #[.int .i64 q, .int .i64 s, .slice a l.length cap, .int .i64 fr, .int .i64 b] 32)).alloc (.cells #[.int .i64 0, .int .i64 0, .slice none 0 0, .int .i64 0, .int .i64 0] 32)) := ((Below.refl _ _).alloc (Nat.le_refl _) _).alloc (by simp) _
  have NO : ∀ (W : World) (str : ByteArray), seenA q s fr b l st nw = .no → Below w.heap.size w W → Hands (seenA q s fr b l st nw) w (.returned (.tuple #[.agg #[.int .i64 0, .int .i64 0, .slice none 0 0, .int .i64 0, .int .i64 0], nothingV str])) W := fun W str h hb =>
    ⟨0, 0, 0, 0, none, 0, 0, nothingV str, rfl, Or.inr ⟨h, rfl, rfl, rfl, rfl, rfl, rfl, rfl, str, rfl⟩, hb⟩
  go_enter Tryz.func84, Tryz.ntmps84
  cases hin : inStepB q s fr b l st nw with
  | false =>
    have HA : Hid (seenA q s fr b l st nw = .no) := by show _ = _; unfold seenA; rw [hin]; rfl
    go_wp2_with fail
    refine (canBe_no q s fr b st nw a b0 o cap l _ hl ((hs.alloc _).alloc _) hin).mono ?_
    rintro e w1 ⟨str, rfl, hb1⟩
    have P1 := P0.keep hb1 P0.lt
    have B1 := B0.trans (hb1.mono B0.size)
    obtain ⟨⟨f0, f1, f2, f3, f4⟩, ff⟩ := P1.cells
    clear hb1
    go_wp2
    refine bodyPost_ret (v := .tuple #[.agg #[.int .i64 0, .int .i64 0, .slice none 0 0, .int .i64 0, .int .i64 0], nothingV str]) (by simp [results, Tryz.results84, go_sem, *]) rfl (NO _ _ HA.out ?_)
    iterate 5 (refine Below.setCell ?_ (by show _ ≤ w.heap.size + 1; omega) _)
    exact B1
  | true =>
    have hin' := hin
    unfold inStepB at hin'
    simp only [Bool.and_eq_true] at hin'
    obtain ⟨⟨hp, hst⟩, hnw⟩ := hin'
    have hst' := (inB_iff _ _ _).1 hst
    have hnw' := (inB_iff _ _ _).1 hnw
    have hlen := path_len hp
    obtain ⟨k, rfl⟩ : ∃ k : Nat, st = (k : Int) := ⟨st.toNat, by omega⟩
    have hk : k < l.length := by omega
    have hfl : flyB q s fr b l = spanB q s fr b l := by unfold flyB; rw [hp]; rfl
    have hfL : flyL q s fr b l = spansL q s fr b l := by unfold flyL; rw [hp]; rfl
    have hIs : ∀ W : World, StepsAt W a b0 o l → Calls Tryz.prog 29 #[.agg #[.int .i64 q, .int .i64 s, .slice a l.length cap, .int .i64 fr, .int .i64 b]] W fun e w' => ∃ v, e = .returned (.tuple #[v, .bool (spanB q s fr b l)]) ∧ w'.ownsRow W.heap.size 66 2 v (spansL q s fr b l).length (spanCells (spansL q s fr b l)) ∧ Below W.heap.size W w' := fun W hW => by
      have := hI q s fr b a b0 o cap l W hl hW
      rw [hfl, hfL] at this
      exact this
    go_wp2_with fail
    refine (canBe_yes q s fr b k nw a b0 o cap l _ hl ((hs.alloc _).alloc _) hin).mono ?_
    rintro e w1 ⟨rfl, hb1⟩
    have P1 := P0.keep hb1 P0.lt
    have Q2 := Q1.keep hb1 Q1.lt
    have B1 := B0.trans (hb1.mono B0.size)
    have z1 := P1.lt
    obtain ⟨⟨c0, c1, c2, c3, c4⟩, _⟩ := Q2.cells
    clear hb1 P0 Q0 Q1 B0 hin hst hnw
    go_wp2_with fail
    refine (hIs _ (hs.below B1 hs.lt)).mono ?_
    rintro e w2 ⟨v2, rfl, ho2, hb2⟩
    have P3 := P1.keep hb2 P1.lt
    have Q4 := Q2.keep hb2 Q2.lt
    have B3 := B1.trans (hb2.mono B1.size)
    clear hb2 P1 Q2 B1 hIs c0 c1 c2 c3 c4
    obtain ⟨⟨f0, f1, f2, f3, f4⟩, ff⟩ := P3.cells
    cases hsb : spanB q s fr b l with
    | false =>
      have HA : Hid (seenA q s fr b l k nw = .no) := by show _ = _; unfold seenA; rw [hsb, Bool.and_false]; rfl
      go_wp2
      refine bodyPost_ret (v := .tuple #[.agg #[.int .i64 0, .int .i64 0, .slice none 0 0, .int .i64 0, .int .i64 0], nothingV ⟨#[116, 104, 101, 114, 101, 32, 119, 97, 115, 32, 110, 111, 32, 102, 108, 105, 103, 104, 116, 32, 97, 108, 111, 110, 103, 32, 105, 116]⟩]) (by simp [results, Tryz.results84, go_sem, *]) rfl (NO _ _ HA.out ?_)
      iterate 5 (refine Below.setCell ?_ (by show _ ≤ w.heap.size + 1; omega) _)
      exact B3
    | true =>
      obtain ⟨x, hx'⟩ : ∃ x, spanOf q s fr b l k = x := ⟨_, rfl⟩
      have hti : inStepB q s fr b l k nw = true := by unfold inStepB; rw [hp, (inB_iff _ _ _).2 hst', (inB_iff _ _ _).2 hnw']; rfl
      have HA : Hid (seenA q s fr b l k nw = canA q s (leftFr fr l k nw) b (leftL l k x.1 (mnB x.2 nw) nw)) := by
        show _ = _; unfold seenA; rw [hti, hsb, Int.toNat_natCast, hx']; rfl
      have hsl : (spansL q s fr b l).length = l.length + 1 := by unfold spansL; rw [if_pos hsb]; simp
      have hgx : (spansL q s fr b l)[k]? = some x := by unfold spansL; rw [if_pos hsb, List.getElem?_map, List.getElem?_range (by omega), ← hx']; rfl
      have hlo := span_lo hp hsb (Nat.le_of_lt hk)
      rw [hx'] at hlo
      have hy : mnB x.2 nw ≤ 10000 := by have := mnB_le x.2 nw; omega
      have hm0 : mxB x.1 0 = x.1 := mx_lo hlo
      rw [hsl] at ho2
      obtain ⟨g3, k3, rfl, _, hg3⟩ := owns_some ho2 (by omega)
      have r0 := (ho2.cellAt (k * 2) (by omega)).trans (spanCells_two hgx).1
      have r1 := (ho2.cellAt (k * 2 + 1) (by omega)).trans (spanCells_two hgx).2
      have k0 : (0 : Int) ≤ (k : Int) := by omega
      have k1 : (k : Int) < ((l.length + 1 : Nat) : Int) := by omega
      have k2 : (k : Int) < (l.length : Int) + 1 := by omega
      obtain ⟨⟨c0, c1, c2, c3, c4⟩, _⟩ := Q4.cells
      have hsd : StepsAt w2.drew a b0 o l := hs.below B3.drew hs.lt
      have zX : w.heap.size < w2.heap.size := Q4.lt
      have zZ : w.heap.size + 1 < w2.heap.size := P3.lt
      have HN : Hid (0 ≤ nw ∧ nw ≤ 10000) := hnw'
      have HP : Hid (pathB q s fr b l = true) := hp
      have MT : ∀ W : World, Calls Tryz.prog 32 #[.agg #[.int .i64 x.1, .int .i64 x.2], .agg #[.int .i64 0, .int .i64 nw]] W fun e w' => e = .returned (.agg #[.int .i64 x.1, .int .i64 (mnB x.2 nw)]) ∧ Below W.heap.size W w' := fun W => by have := meet_any x.1 x.2 0 nw W; rw [hm0] at this; exact this
      clear hnw' hst' hp NO ho2 hgx hsl hm0
      go_wp2
      go_region_held3 (fun w' => w'.cell? ⟨w.heap.size, 0, none⟩ = some (.int .i64 q) ∧ w'.cell? ⟨w.heap.size, 1, none⟩ = some (.int .i64 s) ∧ w'.cell? ⟨w.heap.size, 2, none⟩ = some (.slice a l.length cap) ∧ w'.cell? ⟨w.heap.size, 3, none⟩ = some (.int .i64 fr) ∧ w'.cell? ⟨w.heap.size, 4, none⟩ = some (.int .i64 b) ∧ w'.cell? ⟨g3, k * 2, none⟩ = some (.int .i64 x.1) ∧ w'.cell? ⟨g3, k * 2 + 1, none⟩ = some (.int .i64 x.2))
        (simp [go_sem, *])
        (first
          | (go_at_call 32; refine (MT _).mono ?_; rintro e w4 ⟨rfl, hb4⟩; have n2 : ∀ j, w4.cell? ⟨w.heap.size, j, none⟩ = w2.cell? ⟨w.heap.size, j, none⟩ := fun j => hb4.cell (p := ⟨w.heap.size, j, none⟩) zX; have n3 : ∀ j, w4.cell? ⟨g3, j, none⟩ = w2.cell? ⟨g3, j, none⟩ := fun j => hb4.cell (p := ⟨g3, j, none⟩) hg3)
          | (go_at_call 96; refine (left_any hI q s fr b x.1 (mnB x.2 nw) nw k a b0 o cap l w4 (hsd.below hb4 hsd.lt) hcap HP.out hk hlo hy HN.out).mono ?_; intro e w5 hL; obtain ⟨q5, s5, fr5, b5, a5, n5, c5, err5, rfl, hG, hb5⟩ := hL.hands; clear hL; have n4 : ∀ j, w5.cell? ⟨w.heap.size, j, none⟩ = w4.cell? ⟨w.heap.size, j, none⟩ := (fun j => hb5.cell (p := ⟨w.heap.size, j, none⟩) (Nat.lt_of_lt_of_le zX hb4.size)); have n5' : ∀ j, w5.cell? ⟨g3, j, none⟩ = w4.cell? ⟨g3, j, none⟩ := (fun j => hb5.cell (p := ⟨g3, j, none⟩) (Nat.lt_of_lt_of_le hg3 hb4.size)); have B5 : Below w2.heap.size w2 w5 := ((Below.refl w2.heap.size w2).drew).trans (hb4.trans (hb5.mono hb4.size)); have P5 := P3.keep B5 P3.lt; have P5c := P5.cells; have f0' := P5c.1.1; have f1' := P5c.1.2.1; have f2' := P5c.1.2.2.1; have f3' := P5c.1.2.2.2.1; have f4' := P5c.1.2.2.2.2; have ff' := P5c.2))
      have B6 := B3.trans (B5.mono B3.size)
      have zs4 := hb4.size
      clear n2 n3 n4 n5' r0 r1 c0 c1 c2 c3 c4 hb4 hb5 hsd f0 f1 f2 f3 f4 ff B5 P3 Q4 P5c MT
      go_wp2
      refine bodyPost_ret (v := .tuple #[.agg #[.int .i64 q5, .int .i64 s5, .slice a5 n5 c5, .int .i64 fr5, .int .i64 b5], err5]) (by simp [results, Tryz.results84, go_sem, *]) rfl ⟨q5, s5, fr5, b5, a5, n5, c5, err5, rfl, ?_, ?_⟩
      · rw [HA.out]
        refine LG.base (base := w4.heap.size) ?_ (by simp at zs4; omega)
        iterate 5 (refine LG.set ?_ (by simp at zs4; omega) _ _)
        exact hG
      · iterate 5 (refine Below.setCell ?_ (by show _ ≤ w.heap.size + 1; omega) _)
        exact B6
end Go.Proofs.YtfnopcgmlfedfaaGreatDoor

namespace Go.Proofs.YtfnopcgmlfedfaaGreatDoor
open Go.RowKit

set_option maxHeartbeats 2000000 in
set_option maxRecDepth 20000 in
theorem flySeenI_any (hI : SpansSaid) (q s fr b st nw : Int) (a : Option Addr) (b0 o cap : Nat) (l : List Stp) (p : Addr) (w : World) (hl : l.length ≤ 1048576) (hs : StepsAt w a b0 o l) (hcap : l.length ≤ cap) (hg : Sent w p) :
    Calls Tryz.prog 71 #[.agg #[.int .i64 q, .int .i64 s, .slice a l.length cap, .int .i64 fr, .int .i64 b], .int .i64 st, .int .i64 nw] w (Gives (seenA q s fr b l st nw) w) := by
  have P0 := PathAt.new (w.alloc (.cells #[.int .i64 q, .int .i64 s, .slice a l.length cap, .int .i64 fr, .int .i64 b] 32)) 0 0 0 0 (.slice none 0 0)
  rw [World.size_alloc] at P0
  have B0 : Below w.heap.size w ((w.alloc (.cells #[.int .i64 q, .int .i64 s, .slice a l.length cap, .int .i64 fr, .int .i64 b] 32)).alloc (.cells #[.int .i64 0, .int .i64 0, .slice none 0 0, .int .i64 0, .int .i64 0] 32)) := ((Below.refl _ _).alloc (Nat.le_refl _) _).alloc (by simp) _
  have HC : ∀ W : World, StepsAt W a b0 o l → Calls Tryz.prog 84 #[.agg #[.int .i64 q, .int .i64 s, .slice a l.length cap, .int .i64 fr, .int .i64 b], .int .i64 st, .int .i64 nw] W (Hands (seenA q s fr b l st nw) W) := fun W hW => seenOf_any hI q s fr b st nw a b0 o cap l W hl hW hcap
  generalize seenA q s fr b l st nw = A at HC ⊢
  go_enter Tryz.func71, Tryz.ntmps71
  go_wp2_with fail
  refine (HC _ ((hs.alloc _).alloc _)).mono ?_
  rintro e w1 ⟨q5, s5, fr5, b5, a5, n5, c5, err5, rfl, hG, hb1⟩
  have P1 := P0.keep hb1 P0.lt
  have B1 := B0.trans (hb1.mono B0.size)
  have hg1 := hg.below B1
  have z1 := hb1.size
  simp only [World.size_alloc] at z1
  clear hb1 P0 B0
  rcases hG with ⟨ho, rfl, rfl, rfl, rfl, rfl, rfl, hr⟩ | ⟨hA, rfl, rfl, rfl, rfl, rfl, rfl, rfl, str, rfl⟩
  · simp only [World.size_alloc] at hr
    go_wp2_with fail
    refine (someLeft_yes _ _ _ _ _ _ _ p _ hg1).mono ?_
    rintro e w2 ⟨rfl, hb2⟩
    have P2 := P1.keep hb2 P1.lt
    have B2 := B1.trans (hb2.mono B1.size)
    have hr2 := owns_below hr hb2
    obtain ⟨⟨f0, f1, f2, f3, f4⟩, ff⟩ := P2.cells
    clear hb2 P1 B1
    clear hr HC
    go_wp2
    refine bodyPost_ret (v := .tuple #[.agg #[.int .i64 A.q, .int .i64 A.s, .slice a5 A.l.length c5, .int .i64 A.fr, .int .i64 A.b], .bool true]) (by simp [results, Tryz.results71, go_sem, *]) rfl ⟨_, by rw [ho], ?_, ?_⟩
    · have hh : ∀ k, (Value.slice a5 A.l.length c5).ownBlock = some k → k ≠ w.heap.size + 1 := fun k e => by have := owns_base hr2 k e; omega
      iterate 5 (refine owns_set ?_ hh _ _)
      exact ⟨hr2.1, hr2.2.imp id fun ⟨g, cap, cur, h1, h2, h3⟩ => ⟨g, cap, cur, h1, by omega, h3⟩⟩
    · iterate 5 (refine Below.setCell ?_ (by show _ ≤ w.heap.size + 1; omega) _)
      exact B2
  · go_wp2_with fail
    refine (someLeft_no _ _ _ _ _ _ _ str p _ hg1).mono ?_
    rintro e w2 ⟨rfl, hb2⟩
    have P2 := P1.keep hb2 P1.lt
    have B2 := B1.trans (hb2.mono B1.size)
    obtain ⟨⟨f0, f1, f2, f3, f4⟩, ff⟩ := P2.cells
    clear hb2 P1 B1
    subst hA
    go_wp2
    refine bodyPost_ret (v := .tuple #[.agg #[.int .i64 0, .int .i64 0, .slice none 0 0, .int .i64 0, .int .i64 0], .bool false]) (by simp [results, Tryz.results71, go_sem, *]) rfl (Gives.none rfl ?_)
    iterate 5 (refine Below.setCell ?_ (by show _ ≤ w.heap.size + 1; omega) _)
    exact B2
end Go.Proofs.YtfnopcgmlfedfaaGreatDoor

namespace Go.Proofs.YtfnopcgmlfedfaaGreatDoor
open Go.RowKit

/-- The contract of the program's FlyRest. -/
def RestISaid : Prop := ∀ (q s fr b st en nw : Int) (a : Option Addr) (b0 o cap : Nat) (l : List Stp) (p : Addr) (w : World), l.length ≤ 1048576 → StepsAt w a b0 o l → l.length ≤ cap → Sent w p →
    Calls Tryz.prog 85 #[.agg #[.int .i64 q, .int .i64 s, .slice a l.length cap, .int .i64 fr, .int .i64 b], .int .i64 st, .int .i64 en, .int .i64 nw] w (Gives (restA q s fr b l st en nw) w)

set_option maxHeartbeats 2000000 in
set_option maxRecDepth 20000 in
theorem leaves_any (hR : RestISaid) (q s fr b st en nw : Int) (a : Option Addr) (b0 o cap : Nat) (l : List Stp) (p : Addr) (w : World) (hl : l.length ≤ 1048576) (hs : StepsAt w a b0 o l) (hcap : l.length ≤ cap) (hg : Sent w p) :
    Calls Tryz.prog 72 #[.agg #[.int .i64 q, .int .i64 s, .slice a l.length cap, .int .i64 fr, .int .i64 b], .int .i64 st, .int .i64 en, .int .i64 nw] w fun e w' => e = .returned (.bool (restA q s fr b l st en nw).ok) ∧ Below w.heap.size w w' := by
  have HC := fun W (hW : StepsAt W a b0 o l) (hgW : Sent W p) => hR q s fr b st en nw a b0 o cap l p W hl hW hcap hgW
  generalize restA q s fr b l st en nw = A at HC ⊢
  have B0 : Below w.heap.size w (w.alloc (.cells #[.int .i64 q, .int .i64 s, .slice a l.length cap, .int .i64 fr, .int .i64 b] 32)) := (Below.refl _ _).alloc (Nat.le_refl _) _
  go_enter Tryz.func72, Tryz.ntmps72
  go_wp2_with fail
  refine (HC _ (hs.alloc _) (hg.alloc _)).mono ?_
  rintro e w1 ⟨v1, rfl, ho1, hb1⟩
  obtain ⟨a1, j1, c1, hv1, _⟩ := steps_of ho1
  subst hv1
  have B1 := B0.trans (hb1.mono B0.size)
  clear hb1 B0 HC ho1
  go_wp2
  go_ret
  exact ⟨rfl, B1.alloc B1.size _⟩

set_option maxHeartbeats 4000000 in
set_option maxRecDepth 20000 in
theorem flyMayI_any (hI : SpansSaid) (hR : RestISaid) (q s fr b : Int) (a : Option Addr) (b0 o cap : Nat) (l : List Stp) (q' s' fr' b' : Int) (a' : Option Addr) (b0' o' cap' : Nat) (l' : List Stp) (st nw : Int) (p : Addr) (w : World) (hl : l.length ≤ 1048576) (hl' : l'.length ≤ 1048576) (hs : StepsAt w a b0 o l) (hs' : StepsAt w a' b0' o' l') (hcap : l.length ≤ cap) (hcap' : l'.length ≤ cap') (hg : Sent w p) :
    Calls Tryz.prog 49 #[.agg #[.int .i64 q, .int .i64 s, .slice a l.length cap, .int .i64 fr, .int .i64 b], .agg #[.int .i64 q', .int .i64 s', .slice a' l'.length cap', .int .i64 fr', .int .i64 b'], .int .i64 st, .int .i64 nw] w
      fun e w' => e = .returned (.bool (mayB q s fr b l q' s' fr' b' l' st nw)) ∧ Below w.heap.size w w' := by
  have T0 := TwoP.new w q s fr b (.slice a l.length cap) q' s' fr' b' (.slice a' l'.length cap')
  go_enter Tryz.func49, Tryz.ntmps49
  go_wp2_with fail
  refine (sharedI_any q s fr b a b0 o cap l q' s' fr' b' a' b0' o' cap' l' _ hl hl' (hs.below T0.old hs.lt) (hs'.below T0.old hs'.lt)).mono ?_
  rintro e w1 ⟨rfl, hb1⟩
  have T1 := T0.below hb1
  clear T0 hb1
  obtain ⟨n, hn⟩ : ∃ n, sharedN q s l q' s' l' = n := ⟨_, rfl⟩
  rw [hn]
  by_cases h1 : (n : Int) ≤ st
  · have HM : Hid (mayB q s fr b l q' s' fr' b' l' st nw = false) := by
      show _ = _; unfold mayB; rw [hn, show decide (st < (n : Int)) = false by simp; omega]; rfl
    go_wp2
    go_ret
    exact ⟨by rw [HM.out]; rfl, T1.old⟩
  have hlt : decide (st < (n : Int)) = true := by simp; omega
  have hsA := fun W (hW : StepsAt W a b0 o l) (hgW : Sent W p) => flySeenI_any hI q s fr b st nw a b0 o cap l p W hl hW hcap hgW
  have hA1 := @seenA_ok q s fr b l st nw
  have HM : Hid (mayB q s fr b l q' s' fr' b' l' st nw = ((seenA q s fr b l st nw).ok && ((restA q' s' fr' b' l' st (firstOf (seenA q s fr b l st nw)).1 nw).ok && (restA q' s' fr' b' l' st (firstOf (seenA q s fr b l st nw)).2 nw).ok))) := by
    show _ = _; unfold mayB; rw [hn, hlt, Bool.true_and]
  clear hlt hn
  generalize seenA q s fr b l st nw = A at hsA hA1 HM
  obtain ⟨⟨p0, p1, p2, p3, p4⟩, _⟩ := T1.pa.cells
  go_wp2_with fail
  refine (hsA _ (hs.below T1.old hs.lt) (hg.below T1.old)).mono ?_
  rintro e w2 ⟨v2, rfl, ho2, hb2⟩
  obtain ⟨a2, j2, c2, hv2, hs2⟩ := steps_of ho2
  subst hv2
  have T2 := T1.below hb2
  have al : Below w2.heap.size w2 (w2.alloc (.cells #[.int .i64 A.q, .int .i64 A.s, .slice a2 A.l.length c2, .int .i64 A.fr, .int .i64 A.b] 32)) := (Below.refl _ _).alloc (Nat.le_refl _) _
  have X2 := PathAt.new w2 A.q A.s A.fr A.b (.slice a2 A.l.length c2)
  have T3 := T2.below al
  have hs3 := hs2.alloc (.cells #[.int .i64 A.q, .int .i64 A.s, .slice a2 A.l.length c2, .int .i64 A.fr, .int .i64 A.b] 32)
  clear p0 p1 p2 p3 p4 T1 T2 hb2 hsA ho2 hs2 al
  cases hok : A.ok with
  | false =>
    rw [hok, Bool.false_and] at HM
    clear X2
    go_wp2
    go_ret
    exact ⟨by rw [HM.out]; rfl, T3.old⟩
  | true =>
    rw [hok, Bool.true_and] at HM
    obtain ⟨hpA, hsb⟩ := hA1 hok
    have hAl := path_len hpA
    have hfl : flyB A.q A.s A.fr A.b A.l = true := by unfold flyB; rw [hpA, hsb]; rfl
    have hfL : flyL A.q A.s A.fr A.b A.l = spansL A.q A.s A.fr A.b A.l := by unfold flyL; rw [hpA]; rfl
    have hsl : (spansL A.q A.s A.fr A.b A.l).length = A.l.length + 1 := by unfold spansL; rw [if_pos hsb]; simp
    have hC := hI A.q A.s A.fr A.b a2 j2 0 c2 A.l (w2.alloc (.cells #[.int .i64 A.q, .int .i64 A.s, .slice a2 A.l.length c2, .int .i64 A.fr, .int .i64 A.b] 32)) (by omega) hs3
    rw [hfl, hfL, hsl] at hC
    have hf1 := spans_first hsb
    obtain ⟨x, hx⟩ : ∃ x, firstOf A = x := ⟨_, rfl⟩
    rw [hx] at HM
    unfold firstOf at hx
    rw [hx] at hf1
    obtain ⟨⟨y0, y1, y2, y3, y4⟩, _⟩ := X2.cells
    go_wp2_with fail
    refine hC.mono ?_
    rintro e w4 ⟨v4, rfl, ho4, hb4⟩
    obtain ⟨g3, k3, rfl, _, hg3⟩ := owns_some ho4 (by omega)
    have r0 := (ho4.cellAt 0 (by omega)).trans (spanCells_two hf1).1
    have r1 := (ho4.cellAt 1 (by omega)).trans (spanCells_two hf1).2
    have T4 := T3.below hb4
    clear y0 y1 y2 y3 y4 hC hb4 T3 X2 hs3 ho4 hx hf1 hsl hfl hfL hpA hsb hA1 hok
    obtain ⟨⟨z0, z1, z2, z3, z4⟩, _⟩ := T4.pb.cells
    have zX : w.heap.size + 1 < w4.heap.size := T4.pb.lt
    obtain ⟨f, hf⟩ : ∃ f : Int → Bool, ∀ en, (restA q' s' fr' b' l' st en nw).ok = f en := ⟨fun en => (restA q' s' fr' b' l' st en nw).ok, fun _ => rfl⟩
    rw [hf, hf] at HM
    have L1 : ∀ (u : Cls w4) (en : Int), Calls Tryz.prog 72 #[.agg #[.int .i64 q', .int .i64 s', .slice a' l'.length cap', .int .i64 fr', .int .i64 b'], .int .i64 st, .int .i64 en, .int .i64 nw] u.it fun e w' => e = .returned (.bool (f en)) ∧ Below u.it.heap.size u.it w' := fun u en => by
      have T5 := T4.below u.same
      rw [← hf]
      exact leaves_any hR q' s' fr' b' st en nw a' b0' o' cap' l' p u.it hl' (hs'.below T5.old hs'.lt) hcap' (hg.below T5.old)
    obtain ⟨x1, x2⟩ := x
    simp only at HM r0 r1
    clear hf
    have l0 : (0 : Int) < ((A.l.length + 1 : Nat) : Int) := by omega
    have HT : Hid (TwoP w w4 q s fr b (.slice a l.length cap) q' s' fr' b' (.slice a' l'.length cap')) := T4
    have qn := Cls.any w4
    have q1 := Cls.cell zX
    have q2 := Cls.cell hg3
    clear T4
    cases e1 : f x1 with
    | false =>
      rw [e1, Bool.false_and] at HM
      go_wp2
      refine wp_region_cls (by kernel_rfl) (by kernel_rfl) ?_
      repeat (go_big_quiet_step ((go_at_call 72; exact Calls.cls_of (L1 _ _))))
      simp only [e1]
      repeat (go_big_quiet_step ((go_at_call 72; exact Calls.cls_of (L1 _ _))))
      refine wpQuiet_nil ?_
      rintro _ ⟨u, rfl⟩
      have T5 := HT.out.below u.same
      clear qn q1 q2 L1
      go_wp2
      go_ret
      exact ⟨by rw [HM.out]; rfl, T5.old⟩
    | true =>
      rw [e1, Bool.true_and] at HM
      go_wp2
      refine wp_region_cls (by kernel_rfl) (by kernel_rfl) ?_
      repeat (go_big_quiet_step ((go_at_call 72; exact Calls.cls_of (L1 _ _))))
      simp only [e1]
      repeat (go_big_quiet_step ((go_at_call 72; exact Calls.cls_of (L1 _ _))))
      refine wpQuiet_nil ?_
      rintro _ ⟨u, rfl⟩
      have T5 := HT.out.below u.same
      clear qn q1 q2 L1
      go_wp2
      go_ret
      exact ⟨by rw [HM.out]; rfl, T5.old⟩
end Go.Proofs.YtfnopcgmlfedfaaGreatDoor

namespace Go.Proofs.YtfnopcgmlfedfaaGreatDoor
open Go.RowKit

def blkOf (a : Option Addr) : Nat := match a with
  | some p => p.block
  | none => 0
theorem ints_at {w : World} {base e : Nat} {zs : List Int} {a : Option Addr} {cap : Nat} (h : w.ownsRow base e 1 (.slice a zs.length cap) zs.length (intCells zs)) : IntsAt w a (blkOf a) 0 zs := by
  obtain ⟨a', g, cap', e1, h1, _⟩ := ints_owned h
  cases e1
  refine ⟨fun hn => ?_, fun hn => ?_, fun i z hi => ?_⟩
  · have := h1.here hn
    rw [this]; rfl
  · have := h1.here hn
    rw [this]; exact h1.lt hn
  · have hn : zs ≠ [] := by intro e; subst e; simp at hi
    have := h1.here hn
    rw [this]; exact h1.cell i z hi
theorem owns_tk {w w' : World} {base e size n TB : Nat} {v : Value} {xs : List Value} (h : w.ownsRow base e size v n xs) (hT : TB < base) (hk : Tk TB w w') : w'.ownsRow base e size v n xs :=
  ⟨h.1, h.2.imp id fun ⟨g, cap, cur, h1, h2, h3, h4⟩ => ⟨g, cap, cur, h1, h2, hk.keep g _ _ _ (by omega) h3, h4⟩⟩

section
variable (f : Int → Int → Bool) (X : List Value → Array Value) (TB : Nat) (Ok : World → Prop)
set_option maxHeartbeats 2000000 in
set_option maxRecDepth 20000 in
theorem turnClo_any (hOk : ∀ W W', Ok W → Tk TB W W' → Ok W')
    (hM : ∀ (st nw : Int) (W : World), Ok W → Tw f X TB W → Calls Tryz.prog 34 #[.pointer (some ⟨TB, 0, none⟩), .int .i64 st, .int .i64 nw] W fun e W' => e = .returned (.bool (f st nw)) ∧ Tw f X TB W' ∧ Tk TB W W')
    (a : Option Addr) (b o cap : Nat) (l : List Bx) (f0 t : Int) (Bt Bu Bf : Nat) (V : World) (hV : Ok V) (h : Tw f X TB V) (hs : BoxesAt V a b o l) (hbT : l ≠ [] → b < TB) (hl : l.length ≤ 1048576)
    (c1 : V.cell? ⟨Bt, 0, none⟩ = some (.pointer (some ⟨TB, 0, none⟩))) (c2 : V.cell? ⟨Bu, 0, none⟩ = some (.slice a l.length cap)) (c3 : V.cell? ⟨Bf, 0, none⟩ = some (.int .i64 f0)) :
    Calls Tryz.prog 19 (#[.int .i64 t] ++ #[.pointer (some ⟨Bt, 0, none⟩), .pointer (some ⟨Bu, 0, none⟩), .pointer (some ⟨Bf, 0, none⟩)]) V fun e V' => e = .returned (.bool (mayTo l f f0 t l.length)) ∧ Tw f X TB V' ∧ Tk TB V V' := by
  have hA := allMay_any f X TB Ok hOk hM a b o cap l f0 t V hV h hs hbT hl
  go_enter Tryz.func19, Tryz.ntmps19
  go_wp2_with fail
  refine hA.mono ?_
  rintro e V' ⟨rfl, h1, h2⟩
  go_wp2
  go_ret
  exact ⟨rfl, h1, h2⟩
end

theorem tube_short (q s fr b : Int) (l : List Stp) : (tubeL q s fr b l).length ≤ l.length := by
  cases h : (tubeL q s fr b l).length with
  | zero => omega
  | succ n =>
    obtain ⟨_, hk, _⟩ := tube_box (List.getElem?_eq_getElem (show n < (tubeL q s fr b l).length by omega))
    omega
theorem ticksL_len {tb : List Bx} (f0 : Int) (h : ∀ x ∈ tb, 0 ≤ x.in_ ∧ x.out ≤ 9999) : (ticksL tb f0).length ≤ 10000 := by
  unfold ticksL
  split
  · rename_i s t hs ht
    have h1 := h s (List.mem_of_getElem? hs)
    have h2 := h t (List.mem_of_getElem? ht)
    split
    · simp
    · rw [upTo_length]
      omega
  · simp
/-- All that the search keeps. -/
structure Ti (Ok : World → Prop) (f : Int → Int → Bool) (X : List Value → Array Value) (TB Bt Bu Bf base : Nat) (tb : List Bx) (ta : Option Addr) (tg tc : Nat) (f0 : Int) (zs : List Int) (na : Option Addr) (nc : Nat) (W : World) : Prop where
  ok : Ok W
  tw : Tw f X TB W
  bt : W.heap[Bt]? = some (.cells #[.pointer (some ⟨TB, 0, none⟩)] 44 (0, 0))
  bu : W.heap[Bu]? = some (.cells #[.slice ta tb.length tc] 37 (0, 0))
  bf : W.heap[Bf]? = some (.cells #[.int .i64 f0] 3 (0, 0))
  bx : BoxesAt W ta tg 0 tb
  zs : W.ownsRow base 3 1 (.slice na zs.length nc) zs.length (intCells zs)
theorem Ti.tk {Ok : World → Prop} {f : Int → Int → Bool} {X : List Value → Array Value} {TB Bt Bu Bf base : Nat} {tb : List Bx} {ta : Option Addr} {tg tc : Nat} {f0 : Int} {zs : List Int} {na : Option Addr} {nc : Nat} {W W' : World}
    (h : Ti Ok f X TB Bt Bu Bf base tb ta tg tc f0 zs na nc W) (hOk : ∀ W W', Ok W → Tk TB W W' → Ok W') (h1 : Bt ≠ TB) (h2 : Bu ≠ TB) (h3 : Bf ≠ TB) (h4 : TB < base) (h5 : tb ≠ [] → tg < TB) (ht : Tw f X TB W') (hk : Tk TB W W') : Ti Ok f X TB Bt Bu Bf base tb ta tg tc f0 zs na nc W' :=
  ⟨hOk _ _ h.ok hk, ht, hk.keep _ _ _ _ h1 h.bt, hk.keep _ _ _ _ h2 h.bu, hk.keep _ _ _ _ h3 h.bf, h.bx.below hk.old h5, owns_tk h.zs h4 hk⟩

set_option maxHeartbeats 4000000 in
set_option maxRecDepth 20000 in
theorem flyTurnI_any (hI : SpansSaid) (hR : RestISaid) (q s fr b : Int) (a : Option Addr) (b0 o cap : Nat) (l : List Stp) (q' s' fr' b' : Int) (a' : Option Addr) (b0' o' cap' : Nat) (l' : List Stp) (f0 : Int) (p : Addr) (w : World) (hl : l.length ≤ 1048576) (hl' : l'.length ≤ 1048576) (hs : StepsAt w a b0 o l) (hs' : StepsAt w a' b0' o' l') (hcap : l.length ≤ cap) (hcap' : l'.length ≤ cap') (hg : Sent w p) :
    Calls Tryz.prog 7 #[.agg #[.int .i64 q, .int .i64 s, .slice a l.length cap, .int .i64 fr, .int .i64 b], .agg #[.int .i64 q', .int .i64 s', .slice a' l'.length cap', .int .i64 fr', .int .i64 b'], .int .i64 f0] w
      fun e w' => ∃ r, e = .returned (.int .i64 r) ∧ TurnIs (turnG q s fr b l q' s' fr' b' l') f0 r ∧ Below w.heap.size w w' := by
  have hmf : ∀ (fn : Fn) (first cap : Array Value) (w : World), (Instr.makeFunc fn first cap).run Tryz.prog w = .ok (.func fn first cap) w := fun _ _ _ _ => rfl
  obtain ⟨w3, hw3⟩ : ∃ w3, ((w.alloc (.cells #[.int .i64 q, .int .i64 s, .slice a l.length cap, .int .i64 fr, .int .i64 b] 32)).alloc (.cells #[.int .i64 q', .int .i64 s', .slice a' l'.length cap', .int .i64 fr', .int .i64 b'] 32)).alloc (.cells #[.int .i64 f0] 3) = w3 := ⟨_, rfl⟩
  have T2 := TwoP.new w q s fr b (.slice a l.length cap) q' s' fr' b' (.slice a' l'.length cap')
  have T3 : TwoP w w3 q s fr b (.slice a l.length cap) q' s' fr' b' (.slice a' l'.length cap') := by rw [← hw3]; exact T2.below ((Below.refl _ _).alloc (Nat.le_refl _) _)
  have F3 : w3.heap[w.heap.size + 2]? = some (.cells #[.int .i64 f0] 3 (0, 0)) := by
    rw [← hw3]
    have := heap_alloc_new ((w.alloc (.cells #[.int .i64 q, .int .i64 s, .slice a l.length cap, .int .i64 fr, .int .i64 b] 32)).alloc (.cells #[.int .i64 q', .int .i64 s', .slice a' l'.length cap', .int .i64 fr', .int .i64 b'] 32)) (.cells #[.int .i64 f0] 3)
    rwa [World.size_alloc, World.size_alloc] at this
  have z3 : w3.heap.size = w.heap.size + 3 := by rw [← hw3]; simp
  obtain ⟨⟨p0, p1, p2, p3, p4⟩, _⟩ := T3.pa.cells
  clear T2
  go_enter Tryz.func7, Tryz.ntmps7
  go_wp2_with fail
  refine (flyTubeI_any hI q s fr b a b0 o cap l _ hl (hs.below T3.old hs.lt)).mono ?_
  rintro e w4 ⟨v4, rfl, ho4, hb4⟩
  obtain ⟨ta, tg, tc, rfl, BX⟩ := boxes_owned ho4
  have T4 := T3.below hb4
  have F4 := (hb4.block _ (by omega)).trans F3
  clear p0 p1 p2 p3 p4 hw3 T3 F3
  have z4 := hb4.size
  obtain ⟨⟨p0, p1, p2, p3, p4⟩, _⟩ := T4.pa.cells
  obtain ⟨⟨r0, r1, r2, r3, r4⟩, _⟩ := T4.pb.cells
  have n0 : w.heap.size < w4.heap.size := by omega
  have n1 : w.heap.size + 1 < w4.heap.size := by omega
  have n2 : w.heap.size + 2 < w4.heap.size := by omega
  have f4 : w4.cell? ⟨w.heap.size + 2, 0, none⟩ = some (.int .i64 f0) := by simp [World.cell?, F4]
  go_wp2_with fail
  obtain ⟨tb, htb⟩ : ∃ tb, tubeL q s fr b l = tb := ⟨_, rfl⟩
  have hbd := tube_bounds q s fr b l
  have htl : (tubeL q s fr b l).length ≤ 1048576 := Nat.le_trans (tube_short q s fr b l) hl
  have hrow := tube_row q s fr b l
  have EG : Hid (turnG q s fr b l q' s' fr' b' l' = fun t => allT tb (fun k => mayB q s fr b l q' s' fr' b' l' (k : Int) t) t) := by unfold Hid; rw [← htb]
  rw [htb] at BX hbd htl hrow ⊢
  have hgap : ∀ k t1 t2 t3, (fun k t => mayB q s fr b l q' s' fr' b' l' k t) k t1 = true → (fun k t => mayB q s fr b l q' s' fr' b' l' k t) k t3 = true → t1 ≤ t2 → t2 ≤ t3 → (fun k t => mayB q s fr b l q' s' fr' b' l' k t) k t2 = true := fun k t1 t2 t3 h1 h3 h12 h23 => may_between h1 h3 h12 h23
  clear ho4 p0 p1 p2 p3 p4 r0 r1 r2 r3 r4 f4 htb
  obtain ⟨w7, hw7⟩ : ∃ w7, ((w4.alloc (.cells #[.slice ta tb.length tc] 37)).alloc (.cells #[.int .i64 q, .int .i64 s, .slice a l.length cap, .int .i64 fr, .int .i64 b, .int .i64 q', .int .i64 s', .slice a' l'.length cap', .int .i64 fr', .int .i64 b', .int .u32 0, .int .i32 0, .int .u32 0, .map none] 59)).alloc (.cells #[.pointer (some ⟨w4.heap.size + 1, 0, none⟩)] 44) = w7 := ⟨_, rfl⟩
  rw [hw7]
  have z7 : w7.heap.size = w4.heap.size + 3 := by rw [← hw7]; simp
  have b7 : Below w4.heap.size w4 w7 := by rw [← hw7]; exact three_bel _ _ _
  have u7 : w7.heap[w4.heap.size]? = some (.cells #[.slice ta tb.length tc] 37 (0, 0)) := by
    rw [← hw7]
    exact ((((Below.refl (w4.heap.size + 1) _).alloc (by simp) _).alloc (by simp) _).block _ (by omega)).trans (heap_alloc_new w4 _)
  have t7 : w7.heap[w4.heap.size + 1]? = some (.cells (twoC q s (.slice a l.length cap) fr b q' s' (.slice a' l'.length cap') fr' b' [.int .u32 0, .int .i32 0, .int .u32 0, .map none]) 59 (0, 0)) := by
    rw [← hw7]
    have h1 := heap_alloc_new (w4.alloc (.cells #[.slice ta tb.length tc] 37)) (.cells #[.int .i64 q, .int .i64 s, .slice a l.length cap, .int .i64 fr, .int .i64 b, .int .i64 q', .int .i64 s', .slice a' l'.length cap', .int .i64 fr', .int .i64 b', .int .u32 0, .int .i32 0, .int .u32 0, .map none] 59)
    rw [World.size_alloc] at h1
    exact (((Below.refl (w4.heap.size + 2) _).alloc (by simp) _).block _ (by omega)).trans h1
  have s7 : w7.heap[w4.heap.size + 1 + 1]? = some (.cells #[.pointer (some ⟨w4.heap.size + 1, 0, none⟩)] 44 (0, 0)) := by
    rw [← hw7]
    have h1 := heap_alloc_new ((w4.alloc (.cells #[.slice ta tb.length tc] 37)).alloc (.cells #[.int .i64 q, .int .i64 s, .slice a l.length cap, .int .i64 fr, .int .i64 b, .int .i64 q', .int .i64 s', .slice a' l'.length cap', .int .i64 fr', .int .i64 b', .int .u32 0, .int .i32 0, .int .u32 0, .map none] 59)) (.cells #[.pointer (some ⟨w4.heap.size + 1, 0, none⟩)] 44)
    rwa [World.size_alloc, World.size_alloc] at h1
  clear hw7
  refine (ticks_any ta tg 0 tc tb f0 _ htl (BX.below b7 BX.lt) hbd).mono ?_
  rintro e w8 ⟨v8, rfl, ho8, hb8⟩
  obtain ⟨na, ng, nc, rfl, _, _⟩ := ints_owned ho8
  have z8 := hb8.size
  have b08 : Below w.heap.size w w8 := T4.old.trans ((b7.mono (by omega)).trans (hb8.mono (by omega)))
  have u8 := (hb8.block _ (by omega)).trans u7
  have t8 := (hb8.block _ (by omega)).trans t7
  have s8 := (hb8.block _ (by omega)).trans s7
  have F8 := (hb8.block _ (by omega)).trans ((b7.block _ n2).trans F4)
  have BX8 := (BX.below b7 BX.lt).below hb8 (BX.below b7 BX.lt).lt
  have hbt : tb ≠ [] → tg < w4.heap.size + 1 := fun h => by have := BX.lt h; omega
  have hls : l ≠ [] → b0 < w4.heap.size + 1 := fun h => by have := hs.lt h; omega
  have hls' : l' ≠ [] → b0' < w4.heap.size + 1 := fun h => by have := hs'.lt h; omega
  have hOk : ∀ W W' : World, (StepsAt W a b0 o l ∧ StepsAt W a' b0' o' l' ∧ Sent W p) → Tk (w4.heap.size + 1) W W' → (StepsAt W' a b0 o l ∧ StepsAt W' a' b0' o' l' ∧ Sent W' p) := fun W W' h hk => ⟨h.1.below hk.old hls, h.2.1.below hk.old hls', (hk.old.cell (p := ⟨0, 0, none⟩) (by show 0 < w4.heap.size + 1; omega)).trans h.2.2⟩
  have hM := turnMay_any (fun k t => mayB q s fr b l q' s' fr' b' l' k t) q s (.slice a l.length cap) fr b q' s' (.slice a' l'.length cap') fr' b' (w4.heap.size + 1) (fun W => StepsAt W a b0 o l ∧ StepsAt W a' b0' o' l' ∧ Sent W p) hOk (fun st nw W hW => flyMayI_any hI hR q s fr b a b0 o cap l q' s' fr' b' a' b0' o' cap' l' st nw p W hl hl' hW.1 hW.2.1 hcap hcap' hW.2.2)
  have hzl := ticksL_len f0 hbd
  obtain ⟨zs, hzs⟩ : ∃ zs, ticksL tb f0 = zs := ⟨_, rfl⟩
  have FIN := @turn_found tb _ f0 hrow hgap
  rw [hzs] at ho8 hzl FIN ⊢
  have I8 : Ti (fun W => StepsAt W a b0 o l ∧ StepsAt W a' b0' o' l' ∧ Sent W p) (fun k t => mayB q s fr b l q' s' fr' b' l' k t) (twoC q s (.slice a l.length cap) fr b q' s' (.slice a' l'.length cap') fr' b') (w4.heap.size + 1) (w4.heap.size + 1 + 1) w4.heap.size (w.heap.size + 1 + 1) w7.heap.size tb ta tg tc f0 zs na nc w8 := ⟨⟨hs.below b08 hs.lt, hs'.below b08 hs'.lt, hg.below b08⟩, ⟨Or.inl ⟨_, t8⟩⟩, s8, u8, F8, BX8, ho8⟩
  have L := lastTrue_any 19 #[.pointer (some ⟨w4.heap.size + 1 + 1, 0, none⟩), .pointer (some ⟨w4.heap.size, 0, none⟩), .pointer (some ⟨w.heap.size + 1 + 1, 0, none⟩)] (fun _ _ => by kernel_rfl) (fun t => mayTo tb (fun k t => mayB q s fr b l q' s' fr' b' l' k t) f0 t tb.length) zs na (blkOf na) 0 nc (w4.heap.size + 1) (Ti (fun W => StepsAt W a b0 o l ∧ StepsAt W a' b0' o' l' ∧ Sent W p) (fun k t => mayB q s fr b l q' s' fr' b' l' k t) (twoC q s (.slice a l.length cap) fr b q' s' (.slice a' l'.length cap') fr' b') (w4.heap.size + 1) (w4.heap.size + 1 + 1) w4.heap.size (w.heap.size + 1 + 1) w7.heap.size tb ta tg tc f0 zs na nc)
    (fun W h => ints_at (Ti.zs h)) (fun W W' h hb => h.tk hOk (by omega) (by omega) (by omega) (by omega) hbt (h.tw.keep hb) (Tk.below hb h.tw.lts)) (fun W h => h.tw.lt)
    (fun z W _ h => (turnClo_any (fun k t => mayB q s fr b l q' s' fr' b' l' k t) (twoC q s (.slice a l.length cap) fr b q' s' (.slice a' l'.length cap') fr' b') (w4.heap.size + 1) (fun W => StepsAt W a b0 o l ∧ StepsAt W a' b0' o' l' ∧ Sent W p) hOk hM ta tg 0 tc tb f0 z _ _ _ W h.ok h.tw h.bx hbt htl (by simp [World.cell?, h.bt]) (by simp [World.cell?, h.bu]) (by simp [World.cell?, h.bf])).mono fun e W' hh => ⟨hh.1, h.tk hOk (by omega) (by omega) (by omega) (by omega) hbt hh.2.1 hh.2.2, hh.2.2⟩) (by omega) w8 I8
  clear I8 hM hOk hgap hrow ho8 BX8 u8 t8 s8 F8 u7 t7 s7 b7 BX hbd htl
  go_wp2_with fail
  refine L.mono ?_
  rintro e w9 ⟨k, hk, rfl, h1, h2, _, hT9⟩
  have B9 : Below w.heap.size w w9 := b08.trans (hT9.old.mono (by omega))
  have E := FIN hk h1 h2
  rw [← EG.out] at E
  have HE : Hid (TurnIs (turnG q s fr b l q' s' fr' b' l') f0 (if k = 0 then -1 else zs.getD (k - 1) 0)) := E
  clear E L FIN h1 h2 EG hT9
  by_cases hk0 : k = 0
  · subst hk0
    go_wp2
    go_ret
    exact ⟨-1, rfl, HE.out, B9⟩
  · rw [if_neg hk0] at HE ⊢
    rw [show decide (k = 0) = false by simpa using hk0]
    go_wp2
    go_ret
    exact ⟨_, rfl, HE.out, B9⟩
end Go.Proofs.YtfnopcgmlfedfaaGreatDoor
