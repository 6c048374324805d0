/- The specification's FlyLawful, by its contract. -/
import Derived.Test.YtijcdikekgmfoaaGreatDoorSpec
import Derived.Test.YtijcdikekgmfoaaGreatDoorLawData
import Derived.Test.YtijcdikekgmfoaaGreatDoorIntsAt
namespace Go.Proofs.YtijcdikekgmfoaaGreatDoor
open Go.RowKit

theorem low_any (q s fr b : Int) (a : Option Addr) (b0 o cap : Nat) (l : List Stp) (k : Nat) (w : World) (hl : l.length ≤ 1048576) (hs : StepsAt w a b0 o l) :
    Calls Tryz.prog 90 #[.agg #[.int .i64 q, .int .i64 s, .slice a l.length cap, .int .i64 fr, .int .i64 b], .int .i64 (k : Int)] w fun e w' => e = .returned (.int .i64 (lowB fr l k)) ∧ Below w.heap.size w w' := by
  have hb := (Below.refl w.heap.size w).alloc (Nat.le_refl _) (.cells #[.int .i64 q, .int .i64 s, .slice a l.length cap, .int .i64 fr, .int .i64 b] 27)
  by_cases hlt : k < l.length
  · obtain ⟨t, htk⟩ : ∃ t, l[k]? = some t := ⟨l[k], List.getElem?_eq_getElem hlt⟩
    have hne : l ≠ [] := by intro e; subst e; simp at hlt
    obtain rfl := hs.here hne
    have hbw := hs.lt hne
    obtain ⟨_, _, _, _, d4, _, _⟩ := (hs.alloc (.cells #[.int .i64 q, .int .i64 s, .slice (some ⟨b0, o, none⟩) l.length cap, .int .i64 fr, .int .i64 b] 27)).seven htk
    have HE : Hid (lowB fr l k = t.fr) := by show _ = _; unfold lowB; rw [if_pos hlt]; simp [List.getD, htk]
    clear htk
    go_enter Tryz.func90, Tryz.ntmps90
    go_wp2
    go_ret
    exact ⟨by rw [HE.out]; rfl, hb⟩
  · have HE : Hid (lowB fr l k = fr) := by show _ = _; unfold lowB; rw [if_neg hlt]
    go_enter Tryz.func90, Tryz.ntmps90
    go_wp2
    go_ret
    exact ⟨by rw [HE.out]; rfl, hb⟩

theorem high_any (q s fr b : Int) (a : Option Addr) (b0 o cap : Nat) (l : List Stp) (k : Nat) (w : World) (hl : l.length ≤ 1048576) (hs : StepsAt w a b0 o l) :
    Calls Tryz.prog 91 #[.agg #[.int .i64 q, .int .i64 s, .slice a l.length cap, .int .i64 fr, .int .i64 b], .int .i64 (k : Int)] w fun e w' => e = .returned (.int .i64 (highB b l k)) ∧ Below w.heap.size w w' := by
  have hb := (Below.refl w.heap.size w).alloc (Nat.le_refl _) (.cells #[.int .i64 q, .int .i64 s, .slice a l.length cap, .int .i64 fr, .int .i64 b] 27)
  by_cases hlt : k < l.length
  · obtain ⟨t, htk⟩ : ∃ t, l[k]? = some t := ⟨l[k], List.getElem?_eq_getElem hlt⟩
    have hne : l ≠ [] := by intro e; subst e; simp at hlt
    obtain rfl := hs.here hne
    have hbw := hs.lt hne
    obtain ⟨_, _, _, _, _, d5, _⟩ := (hs.alloc (.cells #[.int .i64 q, .int .i64 s, .slice (some ⟨b0, o, none⟩) l.length cap, .int .i64 fr, .int .i64 b] 27)).seven htk
    have HE : Hid (highB b l k = t.by_) := by show _ = _; unfold highB; rw [if_pos hlt]; simp [List.getD, htk]
    clear htk
    go_enter Tryz.func91, Tryz.ntmps91
    go_wp2
    go_ret
    exact ⟨by rw [HE.out]; rfl, hb⟩
  · have HE : Hid (highB b l k = b) := by show _ = _; unfold highB; rw [if_neg hlt]
    go_enter Tryz.func91, Tryz.ntmps91
    go_wp2
    go_ret
    exact ⟨by rw [HE.out]; rfl, hb⟩

theorem most_any (q s fr b : Int) (a : Option Addr) (b0 o cap : Nat) (l : List Stp) (k : Nat) (w : World) (hl : l.length ≤ 1048576) (hs : StepsAt w a b0 o l) (hlt : k < l.length) :
    Calls Tryz.prog 92 #[.agg #[.int .i64 q, .int .i64 s, .slice a l.length cap, .int .i64 fr, .int .i64 b], .int .i64 (k : Int)] w fun e w' => e = .returned (.int .i64 (mostB s l k)) ∧ Below w.heap.size w w' := by
  have hb := (Below.refl w.heap.size w).alloc (Nat.le_refl _) (.cells #[.int .i64 q, .int .i64 s, .slice a l.length cap, .int .i64 fr, .int .i64 b] 27)
  obtain ⟨t, htk⟩ : ∃ t, l[k]? = some t := ⟨l[k], List.getElem?_eq_getElem hlt⟩
  have hne : l ≠ [] := by intro e; subst e; simp at hlt
  obtain rfl := hs.here hne
  have hbw := hs.lt hne
  obtain ⟨_, _, _, _, _, _, d6⟩ := (hs.alloc (.cells #[.int .i64 q, .int .i64 s, .slice (some ⟨b0, o, none⟩) l.length cap, .int .i64 fr, .int .i64 b] 27)).seven htk
  have HE : Hid (mostB s l k = if t.ho then 10000 else s) := by show _ = _; unfold mostB; simp [List.getD, htk]
  clear htk
  cases hho : t.ho with
  | true =>
    have HF : Hid (mostB s l k = 10000) := by show _ = _; rw [HE.out, hho]; rfl
    rw [hho] at d6
    go_enter Tryz.func92, Tryz.ntmps92
    go_wp2
    go_ret
    exact ⟨by rw [HF.out]; rfl, hb⟩
  | false =>
    have HF : Hid (mostB s l k = s) := by show _ = _; rw [HE.out, hho]; rfl
    rw [hho] at d6
    go_enter Tryz.func92, Tryz.ntmps92
    go_wp2
    go_ret
    exact ⟨by rw [HF.out]; rfl, hb⟩
end Go.Proofs.YtijcdikekgmfoaaGreatDoor
