/- The law's own comparison of kinds, steps and paths, by their contracts: true where both sides hold the same numbers. -/
import Derived.WalkKit
import Derived.WalkSpells
import Derived.Deep.RegionHeld3
import Derived.Test.YtgjleeamhkolhaaGreatDoorRows
import Derived.Test.YtgjleeamhkolhaaGreatDoorData
namespace Go.Proofs.YtgjleeamhkolhaaGreatDoor
open Go.RowKit

theorem eqKind_same (q s : Int) (w : World) :
    Calls Tryz.prog 40 #[.agg #[.int .i64 q, .int .i64 s], .agg #[.int .i64 q, .int .i64 s]] w fun e w' => e = .returned (.bool true) ∧ Below w.heap.size w w' := by
  go_enter Tryz.func40, Tryz.ntmps40
  go_wp2
  go_ret
  exact ⟨rfl, ((Below.refl _ _).alloc (Nat.le_refl _) _).alloc (by simp) _⟩

theorem eqStep_same (x y lo hi fr b : Int) (ho : Bool) (w : World) :
    Calls Tryz.prog 74 #[.agg #[.int .i64 x, .int .i64 y, .int .i64 lo, .int .i64 hi, .int .i64 fr, .int .i64 b, .bool ho], .agg #[.int .i64 x, .int .i64 y, .int .i64 lo, .int .i64 hi, .int .i64 fr, .int .i64 b, .bool ho]] w
      fun e w' => e = .returned (.bool true) ∧ Below w.heap.size w w' := by
  go_enter Tryz.func74, Tryz.ntmps74
  go_wp2
  go_ret
  exact ⟨rfl, ((Below.refl _ _).alloc (Nat.le_refl _) _).alloc (by simp) _⟩

set_option maxHeartbeats 1000000 in
theorem eqSteps_same (a a' : Option Addr) (b o cap b' o' cap' : Nat) (l : List Stp) (w : World) (hl : l.length ≤ 1048576) (hs : StepsAt w a b o l) (hs' : StepsAt w a' b' o' l) :
    Calls Tryz.prog 41 #[.slice a l.length cap, .slice a' l.length cap'] w fun e w' => e = .returned (.bool true) ∧ Below w.heap.size w w' := by
  go_enter Tryz.func41, Tryz.ntmps41
  go_wp2
  go_loopw [5] (fun v wr => ∃ k : Nat, k ≤ l.length ∧ v = .int .i64 k ∧ Below w.heap.size w wr) (fun v _ => l.length - (intOf v).toNat)
  case atStart => exact ⟨0, Nat.zero_le _, rfl, Below.refl _ _⟩
  case round =>
    obtain ⟨k, hk, rfl, hb⟩ := hrel
    by_cases hlt : k < l.length
    · obtain ⟨s, hsk⟩ : ∃ s, l[k]? = some s := ⟨l[k], List.getElem?_eq_getElem hlt⟩
      have hne : l ≠ [] := by intro e; subst e; simp at hlt
      obtain rfl := hs.here hne
      obtain rfl := hs'.here hne
      have hbw := hs.lt hne
      have hbw' := hs'.lt hne
      obtain ⟨c0, c1, c2, c3, c4, c5, c6⟩ := (hs.below hb (fun _ => hbw)).seven hsk
      obtain ⟨d0, d1, d2, d3, d4, d5, d6⟩ := (hs'.below hb (fun _ => hbw')).seven hsk
      have k0 : (0 : Int) ≤ (k : Int) := by omega
      have k1 : (k : Int) < (l.length : Int) := by omega
      have hbx : b < wr.heap.size := Nat.lt_of_lt_of_le hbw hb.size
      have hbx' : b' < wr.heap.size := Nat.lt_of_lt_of_le hbw' hb.size
      have HS : Hid (l[k]? = some s) := hsk
      clear hsk
      go_wp2
      go_region_held3 (fun w' => w'.cell? ⟨b, o + k * 7, none⟩ = some (.int .i64 s.x) ∧ w'.cell? ⟨b, o + k * 7 + 1, none⟩ = some (.int .i64 s.y) ∧ w'.cell? ⟨b, o + k * 7 + 2, none⟩ = some (.int .i64 s.lo) ∧ w'.cell? ⟨b, o + k * 7 + 3, none⟩ = some (.int .i64 s.hi) ∧ w'.cell? ⟨b, o + k * 7 + 4, none⟩ = some (.int .i64 s.fr) ∧ w'.cell? ⟨b, o + k * 7 + 5, none⟩ = some (.int .i64 s.by_) ∧ w'.cell? ⟨b, o + k * 7 + 6, none⟩ = some (.bool s.ho) ∧
        w'.cell? ⟨b', o' + k * 7, none⟩ = some (.int .i64 s.x) ∧ w'.cell? ⟨b', o' + k * 7 + 1, none⟩ = some (.int .i64 s.y) ∧ w'.cell? ⟨b', o' + k * 7 + 2, none⟩ = some (.int .i64 s.lo) ∧ w'.cell? ⟨b', o' + k * 7 + 3, none⟩ = some (.int .i64 s.hi) ∧ w'.cell? ⟨b', o' + k * 7 + 4, none⟩ = some (.int .i64 s.fr) ∧ w'.cell? ⟨b', o' + k * 7 + 5, none⟩ = some (.int .i64 s.by_) ∧ w'.cell? ⟨b', o' + k * 7 + 6, none⟩ = some (.bool s.ho))
        (simp [go_sem, *])
        (first | (go_at_call 74; refine (eqStep_same _ _ _ _ _ _ _ _).mono ?_; rintro e w1 ⟨rfl, hb1⟩; have hc1 : ∀ j, w1.cell? ⟨b, j, none⟩ = wr.cell? ⟨b, j, none⟩ := fun j => hb1.cell (p := ⟨b, j, none⟩) hbx; have hc2 : ∀ j, w1.cell? ⟨b', j, none⟩ = wr.cell? ⟨b', j, none⟩ := fun j => hb1.cell (p := ⟨b', j, none⟩) hbx'))
      go_wp2
      go_roundw
      case rel => exact ⟨k + 1, by omega, by go_num, hb.drew.trans (hb1.mono hb.size)⟩
      case measure => simp [intOf]; omega
    · go_wp2
      go_ret
      exact ⟨rfl, hb⟩

set_option maxHeartbeats 1000000 in
theorem eqPath_same (q s fr b : Int) (a a' : Option Addr) (b0 o cap b0' o' cap' : Nat) (l : List Stp) (w : World) (hl : l.length ≤ 1048576) (hs : StepsAt w a b0 o l) (hs' : StepsAt w a' b0' o' l) :
    Calls Tryz.prog 13 #[.agg #[.int .i64 q, .int .i64 s, .slice a l.length cap, .int .i64 fr, .int .i64 b], .agg #[.int .i64 q, .int .i64 s, .slice a' l.length cap', .int .i64 fr, .int .i64 b]] w
      fun e w' => e = .returned (.bool true) ∧ Below w.heap.size w w' := by
  go_enter Tryz.func13, Tryz.ntmps13
  go_wp2_with fail
  refine (eqKind_same _ _ _).mono ?_
  rintro e w1 ⟨rfl, hb1⟩
  obtain ⟨hc1, _⟩ := old_cells hb1
  have hz1 := hb1.size
  simp at hz1
  have hb01 : Below w.heap.size w w1 := (((Below.refl w.heap.size w).alloc (Nat.le_refl _) _).alloc (by simp) _).trans (hb1.mono (by simp; omega))
  have hC1 : ∀ b o, b < w.heap.size + 2 → w1.cell? ⟨b, o, none⟩ = _ := fun b o h => hc1 b o (by simp; omega)
  have a2 : w1.cell? ⟨w.heap.size, 2, none⟩ = some (.slice a l.length cap) := by rw [hC1 _ _ (by omega)]; simp [go_sem]
  have a3 : w1.cell? ⟨w.heap.size, 3, none⟩ = some (.int .i64 fr) := by rw [hC1 _ _ (by omega)]; simp [go_sem]
  have a4 : w1.cell? ⟨w.heap.size, 4, none⟩ = some (.int .i64 b) := by rw [hC1 _ _ (by omega)]; simp [go_sem]
  have d2 : w1.cell? ⟨w.heap.size + 1, 2, none⟩ = some (.slice a' l.length cap') := by rw [hC1 _ _ (by omega)]; simp [go_sem]
  have d3 : w1.cell? ⟨w.heap.size + 1, 3, none⟩ = some (.int .i64 fr) := by rw [hC1 _ _ (by omega)]; simp [go_sem]
  have d4 : w1.cell? ⟨w.heap.size + 1, 4, none⟩ = some (.int .i64 b) := by rw [hC1 _ _ (by omega)]; simp [go_sem]
  clear hc1 hC1
  go_wp2_with fail
  refine (eqSteps_same _ _ b0 o _ b0' o' _ _ _ hl (hs.below hb01 hs.lt) (hs'.below hb01 hs'.lt)).mono ?_
  rintro e w2 ⟨rfl, hb2⟩
  have z : w.heap.size + 1 < w1.heap.size := by omega
  have e3 : w2.cell? ⟨w.heap.size, 3, none⟩ = some (.int .i64 fr) := (hb2.cell (p := ⟨w.heap.size, 3, none⟩) (by show w.heap.size < _; omega)).trans a3
  have e4 : w2.cell? ⟨w.heap.size, 4, none⟩ = some (.int .i64 b) := (hb2.cell (p := ⟨w.heap.size, 4, none⟩) (by show w.heap.size < _; omega)).trans a4
  have g3 : w2.cell? ⟨w.heap.size + 1, 3, none⟩ = some (.int .i64 fr) := (hb2.cell (p := ⟨w.heap.size + 1, 3, none⟩) z).trans d3
  have g4 : w2.cell? ⟨w.heap.size + 1, 4, none⟩ = some (.int .i64 b) := (hb2.cell (p := ⟨w.heap.size + 1, 4, none⟩) z).trans d4
  go_wp2
  go_ret
  exact ⟨rfl, hb01.trans (hb2.mono (by omega))⟩
end Go.Proofs.YtgjleeamhkolhaaGreatDoor
