/- The law's own copies of steps and paths, by their contracts: new memory, the same numbers. -/
import Derived.WalkKit
import Derived.WalkSpells
import Derived.Test.YtgjleeamhkolhaaGreatDoorRows
import Derived.Test.YtgjleeamhkolhaaGreatDoorStepInfo
import Derived.Test.YtgjleeamhkolhaaGreatDoorData
namespace Go.Proofs.YtgjleeamhkolhaaGreatDoor
open Go.RowKit

theorem toStep_any (x y lo hi fr b : Int) (ho : Bool) (w : World) :
    Calls Tryz.prog 63 #[.agg #[.int .i64 x, .int .i64 y, .int .i64 lo, .int .i64 hi, .int .i64 fr, .int .i64 b, .bool ho]] w
      fun e w' => e = .returned (.agg #[.int .i64 x, .int .i64 y, .int .i64 lo, .int .i64 hi, .int .i64 fr, .int .i64 b, .bool ho]) ∧ Below w.heap.size w w' := by
  go_enter Tryz.func63, Tryz.ntmps63
  go_wp2
  refine bodyPost_ret (v := .agg #[.int .i64 x, .int .i64 y, .int .i64 lo, .int .i64 hi, .int .i64 fr, .int .i64 b, .bool ho]) (by simp [results, Tryz.results63, go_sem]) rfl ⟨rfl, ?_⟩
  exact (((Below.refl _ _).alloc (Nat.le_refl _) _).alloc (by simp) _).alloc (by simp; omega) _

theorem toKind_any (q s : Int) (w : World) :
    Calls Tryz.prog 32 #[.agg #[.int .i64 q, .int .i64 s]] w fun e w' => e = .returned (.agg #[.int .i64 q, .int .i64 s]) ∧ Below w.heap.size w w' := by
  go_enter Tryz.func32, Tryz.ntmps32
  go_wp2
  refine bodyPost_ret (v := .agg #[.int .i64 q, .int .i64 s]) (by simp [results, Tryz.results32, go_sem]) rfl ⟨rfl, ?_⟩
  exact (((Below.refl _ _).alloc (Nat.le_refl _) _).alloc (by simp) _).alloc (by simp; omega) _


set_option maxHeartbeats 1000000 in
theorem toSteps_more (a : Option Addr) (b o cap : Nat) (l : List Stp) (w : World) (hl : l.length ≤ 1048576) (hs : StepsAt w a b o l) :
    Calls Tryz.prog 33 #[.slice a l.length cap] w
      fun e w' => ∃ g, e = .returned (.slice (some ⟨g, 0, none⟩) l.length l.length) ∧ w.heap.size ≤ g ∧ g < w'.heap.size ∧ StepsAt w' (some ⟨g, 0, none⟩) g 0 l ∧ Below w.heap.size w w' ∧ ∀ i, i < l.length → w'.there g (i * 7) 7 := by
  obtain ⟨i0, hi, hz0, hz1, hz2⟩ := info_parts step_info
  go_enter Tryz.func33, Tryz.ntmps33
  go_wp2_with (first | (at_make; refine wpList_make_full _ rfl _ _ 36 rfl w.heap.size 98 i0 _ 7 Tryz.underlying36 hi hz0 hz1 .i64 .i64 _ _ l.length rfl rfl rfl rfl (by rw [hz2]; omega) (by unfold maxLen; omega) (Nat.le_refl _) ?_; intro w1 hown1 hgrow1))
  have hz : (madeCells (Value.agg #[.int .i64 0, .int .i64 0, .int .i64 0, .int .i64 0, .int .i64 0, .int .i64 0, .bool false]).cells (l.length * 7)).toList.length = l.length * 7 := hown1.1
  obtain ⟨hlen1, hrow1⟩ := hown1
  have hb1 : Below w.heap.size w w1 := (Below.refl _ _).grown hgrow1 (Nat.le_refl _) (fun k e => by cases e)
  obtain ⟨cur, hcur, hsz⟩ : ∃ cur, w1.heap[w.heap.size]? = some (.cells cur 98 (0, 0)) ∧ cur.size = l.length * 7 := by
    rcases hrow1 with ⟨h, _⟩ | ⟨g, cap, cur, h, _, hh, _, _, hs, _⟩
    · cases h
    · simp at h
      obtain ⟨rfl, rfl⟩ := h
      exact ⟨cur, hh, hs⟩
  clear hlen1 hrow1 hz hgrow1
  have hth : ∀ i, i < l.length → w1.there w.heap.size (i * 7) 7 := fun i hi => there_of_block hcur _ _ (by omega)
  have hgr1 : w.heap.size < w1.heap.size := lt_of_block hcur
  go_loopw [4] (fun v wr => ∃ k : Nat, k ≤ l.length ∧ v = .int .i64 k ∧ Below w.heap.size w wr ∧ w.heap.size < wr.heap.size ∧ (∀ i, i < l.length → wr.there w.heap.size (i * 7) 7) ∧ (∀ (i : Nat) (s : Stp), i < k → l[i]? = some s → wr.rangeAt w.heap.size (i * 7) s.cells))
    (fun v _ => l.length - (intOf v).toNat)
  case atStart => exact ⟨0, Nat.zero_le _, rfl, hb1, hgr1, hth, fun i s h => absurd h (by omega)⟩
  case round =>
    obtain ⟨k, hk, rfl, hb, hgr, hthr, hdone⟩ := hrel
    by_cases hlt : k < l.length
    · obtain ⟨s, hsk⟩ : ∃ s, l[k]? = some s := ⟨l[k], List.getElem?_eq_getElem hlt⟩
      have hne : l ≠ [] := by intro e; subst e; simp at hlt
      obtain rfl := hs.here hne
      have hbw := hs.lt hne
      obtain ⟨c0, c1, c2, c3, c4, c5, c6⟩ := (hs.below hb (fun _ => hbw)).seven hsk
      go_wp2_with fail
      refine (toStep_any _ _ _ _ _ _ _ _).mono ?_
      rintro e w2 ⟨rfl, hb2⟩
      have hth2 : w2.there w.heap.size (k * 7) 7 := there_below (hthr k hlt) hb2 hgr
      have HT : Hid (w2.there w.heap.size (k * 7) 7) := hth2
      go_wp2_with (refine store_step rfl (.tmp 21) (.tmp 20) rfl w.heap.size (k * 7) s rfl rfl hth2 ?_; clear hth2)
      go_roundw
      case rel =>
        refine ⟨k + 1, by omega, by go_num, below_setCells (Nat.le_refl _) _ _ _ _ (hb.trans (hb2.mono (by have := hb.size; omega))), ?_, ?_, ?_⟩
        · rw [size_setCells]; have := hb2.size; omega
        · intro i hi
          exact World.there_setCells (there_below (hthr i hi) hb2 hgr) _ _ _
        · intro i s' hi hs'
          by_cases hik : i = k
          · subst hik
            obtain rfl : s = s' := by rw [hsk] at hs'; simpa using hs'
            exact World.rangeAt_setCells_same _ _ _ _ HT.out
          · exact World.rangeAt_setCells_apart (range_below (hdone i s' (by omega) hs') hb2 hgr) _ _ _ (by right; left; simp; omega)
      case measure => simp [intOf]; omega
    · have hkl : k = l.length := by omega
      subst hkl
      go_wp2
      go_ret
      exact ⟨w.heap.size, rfl, Nat.le_refl _, hgr, ⟨fun _ => rfl, fun _ => hgr, fun i s hi => by simpa using hdone i s (List.getElem?_eq_some_iff.1 hi).1 hi⟩, hb, hthr⟩

theorem toSteps_any (a : Option Addr) (b o cap : Nat) (l : List Stp) (w : World) (hl : l.length ≤ 1048576) (hs : StepsAt w a b o l) :
    Calls Tryz.prog 33 #[.slice a l.length cap] w
      fun e w' => ∃ g, e = .returned (.slice (some ⟨g, 0, none⟩) l.length l.length) ∧ w.heap.size ≤ g ∧ g < w'.heap.size ∧ StepsAt w' (some ⟨g, 0, none⟩) g 0 l ∧ Below w.heap.size w w' :=
  (toSteps_more a b o cap l w hl hs).mono fun _ _ ⟨g, h1, h2, h3, h4, h5, _⟩ => ⟨g, h1, h2, h3, h4, h5⟩
end Go.Proofs.YtgjleeamhkolhaaGreatDoor
