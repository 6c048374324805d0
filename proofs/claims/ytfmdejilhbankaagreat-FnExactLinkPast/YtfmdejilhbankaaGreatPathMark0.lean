/- The law's own marks in the steps of a path that a call owns, set and looked for, by their contracts. -/
import Derived.Test.YtfmdejilhbankaaGreatSpanMark20
import Derived.Test.YtfmdejilhbankaaGreatPathKit
namespace Go.Proofs.YtfmdejilhbankaaGreat
open Go.RowKit

/-- The marks of one step. -/
def markStp (K : Int) : Stp := { x := K, y := K + 1, lo := K + 1 + 1, hi := K + 1 + 1 + 1, fr := K + 1 + 1 + 1 + 1, by_ := K + 1 + 1 + 1 + 1 + 1, ho := (K + 1 + 1 + 1 + 1 + 1 + 1) % 3 == 0 }
def markL (k0 : Int) (n : Nat) : List Stp := (List.range n).map fun i => markStp (k0 + ((i * 7 : Nat) : Int))
def markSTo (k0 : Int) (l : List Stp) (k : Nat) : List Stp := markL k0 k ++ l.drop k
theorem markL_length (k0 : Int) (n : Nat) : (markL k0 n).length = n := by simp [markL]
theorem markL_get (k0 : Int) {n i : Nat} (h : i < n) : (markL k0 n)[i]? = some (markStp (k0 + ((i * 7 : Nat) : Int))) := by simp [markL, h]
theorem markSTo_zero (k0 : Int) (l : List Stp) : markSTo k0 l 0 = l := by simp [markSTo, markL]
theorem markSTo_all (k0 : Int) (l : List Stp) : markSTo k0 l l.length = markL k0 l.length := by simp [markSTo]
theorem markSTo_length (k0 : Int) (l : List Stp) {k : Nat} (h : k ≤ l.length) : (markSTo k0 l k).length = l.length := by simp [markSTo, markL_length]; omega
theorem markSTo_now (k0 : Int) {l : List Stp} {k : Nat} {t : Stp} (h : l[k]? = some t) : (markSTo k0 l k)[k]? = some t := by
  unfold markSTo
  rw [List.getElem?_append_right (by rw [markL_length]; exact Nat.le_refl _), markL_length, List.getElem?_drop, Nat.sub_self, Nat.add_zero]
  exact h
theorem markSTo_succ (k0 : Int) {l : List Stp} {k : Nat} (h : k < l.length) : markSTo k0 l (k + 1) = (markSTo k0 l k).set k (markStp (k0 + ((k * 7 : Nat) : Int))) := by
  apply List.ext_getElem?
  intro i
  by_cases e : i = k
  · subst e
    rw [List.getElem?_set_self (by rw [markSTo_length k0 l (Nat.le_of_lt h)]; exact h)]
    unfold markSTo
    rw [List.getElem?_append_left (by rw [markL_length]; omega), markL_get k0 (by omega)]
  · rw [List.getElem?_set_ne (Ne.symm e)]
    unfold markSTo
    by_cases c : i < k
    · rw [List.getElem?_append_left (by rw [markL_length]; omega), List.getElem?_append_left (by rw [markL_length]; exact c), markL_get k0 (by omega), markL_get k0 c]
    · rw [List.getElem?_append_right (by rw [markL_length]; omega), List.getElem?_append_right (by rw [markL_length]; omega), markL_length, markL_length, List.getElem?_drop, List.getElem?_drop]
      congr 1
      omega

/-- One number of one step is written. -/
theorem row_put {w : World} {base g cap n : Nat} {l : List Stp} (h : w.ownsRow base 102 7 (.slice (some ⟨g, 0, none⟩) n cap) n (stepCells l)) {i j : Nat} {t t' : Stp} {u : Value} (ht : l[i]? = some t) (hj : j < 7) (he : t'.cells = t.cells.set j u) :
    (w.setCell ⟨g, i * 7 + j, none⟩ u).ownsRow base 102 7 (.slice (some ⟨g, 0, none⟩) n cap) n (stepCells (l.set i t')) := by
  have hi : i < l.length := (List.getElem?_eq_some_iff.1 ht).1
  have hn : l.length * 7 = n * 7 := by rw [← stepCells_length]; exact h.1
  rw [← stepCells_put l i j t t' u ht hj he]
  exact owns_put h (by omega) u
theorem row_put_set {w : World} {base g cap n : Nat} {l : List Stp} {i j : Nat} {t t' : Stp} {u : Value} (h : w.ownsRow base 102 7 (.slice (some ⟨g, 0, none⟩) n cap) n (stepCells (l.set i t))) (hi : i < l.length) (hj : j < 7) (he : t'.cells = t.cells.set j u) :
    (w.setCell ⟨g, i * 7 + j, none⟩ u).ownsRow base 102 7 (.slice (some ⟨g, 0, none⟩) n cap) n (stepCells (l.set i t')) := by
  have h1 := row_put h (j := j) (t := t) (t' := t') (u := u) (by rw [List.getElem?_set_self hi]) hj he
  rw [List.set_set] at h1
  exact h1
/-- All of one step is written. -/
theorem row_put7 {w : World} {base g cap n : Nat} {l : List Stp} (h : w.ownsRow base 102 7 (.slice (some ⟨g, 0, none⟩) n cap) n (stepCells l)) {i : Nat} {t : Stp} (ht : l[i]? = some t) (x y lo hi fr by_ : Int) (ho : Bool) :
    (((((((w.setCell ⟨g, i * 7, none⟩ (.int .i64 x)).setCell ⟨g, i * 7 + 1, none⟩ (.int .i64 y)).setCell ⟨g, i * 7 + 2, none⟩ (.int .i64 lo)).setCell ⟨g, i * 7 + 3, none⟩ (.int .i64 hi)).setCell ⟨g, i * 7 + 4, none⟩ (.int .i64 fr)).setCell ⟨g, i * 7 + 5, none⟩ (.int .i64 by_)).setCell ⟨g, i * 7 + 6, none⟩ (.bool ho)).ownsRow base 102 7 (.slice (some ⟨g, 0, none⟩) n cap) n (stepCells (l.set i { x := x, y := y, lo := lo, hi := hi, fr := fr, by_ := by_, ho := ho })) := by
  have hil : i < l.length := (List.getElem?_eq_some_iff.1 ht).1
  obtain ⟨a0, a1, a2, a3, a4, a5, a6⟩ := t
  have h0 := row_put h (j := 0) (t' := ⟨x, a1, a2, a3, a4, a5, a6⟩) (u := .int .i64 x) ht (by decide) rfl
  have h1 := row_put_set (t := ⟨x, a1, a2, a3, a4, a5, a6⟩) (t' := ⟨x, y, a2, a3, a4, a5, a6⟩) (j := 1) (u := .int .i64 y) h0 hil (by decide) rfl
  have h2 := row_put_set (t := ⟨x, y, a2, a3, a4, a5, a6⟩) (t' := ⟨x, y, lo, a3, a4, a5, a6⟩) (j := 2) (u := .int .i64 lo) h1 hil (by decide) rfl
  have h3 := row_put_set (t := ⟨x, y, lo, a3, a4, a5, a6⟩) (t' := ⟨x, y, lo, hi, a4, a5, a6⟩) (j := 3) (u := .int .i64 hi) h2 hil (by decide) rfl
  have h4 := row_put_set (t := ⟨x, y, lo, hi, a4, a5, a6⟩) (t' := ⟨x, y, lo, hi, fr, a5, a6⟩) (j := 4) (u := .int .i64 fr) h3 hil (by decide) rfl
  have h5 := row_put_set (t := ⟨x, y, lo, hi, fr, a5, a6⟩) (t' := ⟨x, y, lo, hi, fr, by_, a6⟩) (j := 5) (u := .int .i64 by_) h4 hil (by decide) rfl
  exact row_put_set (t := ⟨x, y, lo, hi, fr, by_, a6⟩) (t' := ⟨x, y, lo, hi, fr, by_, ho⟩) (j := 6) (u := .bool ho) h5 hil (by decide) rfl

theorem markSteps_nil (k0 : Int) (w : World) : Calls Tryz.prog 73 #[.slice none 0 0, .int .i64 k0] w fun e w' => e = .returned (.int .i64 k0) ∧ w' = w := by
  go_enter Tryz.func73, Tryz.ntmps73
  go_wp2
  go_loopw [1, 5] (fun v u wr => v = .int .i64 k0 ∧ u = .int .i64 0 ∧ wr = w) (fun _ _ _ => 0)
  case atStart => exact ⟨rfl, rfl, rfl⟩
  case round =>
    obtain ⟨rfl, rfl, rfl⟩ := hrel
    go_wp2
    go_ret
    exact ⟨rfl, rfl⟩

theorem heldSteps_nil (k0 : Int) (w : World) : Calls Tryz.prog 74 #[.slice none 0 0, .int .i64 k0] w fun e w' => e = .returned (.int .i64 k0) ∧ w' = w := by
  go_enter Tryz.func74, Tryz.ntmps74
  go_wp2
  go_loopw [1, 5] (fun v u wr => v = .int .i64 k0 ∧ u = .int .i64 0 ∧ wr = w) (fun _ _ _ => 0)
  case atStart => exact ⟨rfl, rfl, rfl⟩
  case round =>
    obtain ⟨rfl, rfl, rfl⟩ := hrel
    go_wp2
    go_ret
    exact ⟨rfl, rfl⟩

set_option maxHeartbeats 4000000 in
set_option maxRecDepth 20000 in
theorem markSteps_row (k0 : Int) (g cap base : Nat) (l : List Stp) (w : World) (hn : l.length ≤ 1048576) (hk : 0 ≤ k0 ∧ k0 ≤ 1000) (h : w.ownsRow base 102 7 (.slice (some ⟨g, 0, none⟩) l.length cap) l.length (stepCells l)) :
    Calls Tryz.prog 73 #[.slice (some ⟨g, 0, none⟩) l.length cap, .int .i64 k0] w
      fun e w' => e = .returned (.int .i64 (k0 + ((l.length * 7 : Nat) : Int))) ∧ w'.ownsRow base 102 7 (.slice (some ⟨g, 0, none⟩) l.length cap) l.length (stepCells (markL k0 l.length)) ∧ w.grownBy w' (some g) := by
  obtain ⟨k1, k2⟩ := hk
  go_enter Tryz.func73, Tryz.ntmps73
  go_wp2
  go_loopw [1, 5] (fun v u wr => ∃ i : Nat, i ≤ l.length ∧ u = .int .i64 i ∧ v = .int .i64 (k0 + ((i * 7 : Nat) : Int)) ∧ wr.ownsRow base 102 7 (.slice (some ⟨g, 0, none⟩) l.length cap) l.length (stepCells (markSTo k0 l i)) ∧ w.grownBy wr (some g)) (fun _ u _ => l.length - (intOf u).toNat)
  case atStart => exact ⟨0, Nat.zero_le _, rfl, by simp, by rw [markSTo_zero]; exact h, ⟨rfl, rfl, rfl, Nat.le_refl _, fun _ _ _ => rfl⟩⟩
  case round =>
    clear h
    obtain ⟨i, hi, rfl, rfl, ho, hg⟩ := hrel
    by_cases hlt : i < l.length
    · obtain ⟨t, ht⟩ : ∃ t, l[i]? = some t := ⟨_, List.getElem?_eq_getElem hlt⟩
      have hnow := markSTo_now k0 ht
      have c0 := (ho.cellAt (i * 7) (by omega)).trans (stepCells_at _ i t 0 hnow (by decide))
      have c1 := (ho.cellAt (i * 7 + 1) (by omega)).trans (stepCells_at _ i t 1 hnow (by decide))
      have c2 := (ho.cellAt (i * 7 + 2) (by omega)).trans (stepCells_at _ i t 2 hnow (by decide))
      have c3 := (ho.cellAt (i * 7 + 3) (by omega)).trans (stepCells_at _ i t 3 hnow (by decide))
      have c4 := (ho.cellAt (i * 7 + 4) (by omega)).trans (stepCells_at _ i t 4 hnow (by decide))
      have c5 := (ho.cellAt (i * 7 + 5) (by omega)).trans (stepCells_at _ i t 5 hnow (by decide))
      have c6 := (ho.cellAt (i * 7 + 6) (by omega)).trans (stepCells_at _ i t 6 hnow (by decide))
      have cf := ho.frozenAt
      have i0 : (0 : Int) ≤ (i : Int) := by omega
      have i1 : (i : Int) < (l.length : Int) := by omega
      have HO : Hid (wr.ownsRow base 102 7 (.slice (some ⟨g, 0, none⟩) l.length cap) l.length (stepCells (markSTo k0 l i))) := ho
      have HG : Hid (w.grownBy wr (some g)) := hg
      have HN : Hid ((markSTo k0 l i)[i]? = some t) := hnow
      have HT : Hid (l[i]? = some t) := ht
      clear ho hg hnow ht
      generalize hK : k0 + ((i * 7 : Nat) : Int) = K
      have b1 : 0 ≤ K ∧ K ≤ 10000000 := by omega
      obtain ⟨b2, b3⟩ := b1
      have EK : Hid (k0 + ((i * 7 : Nat) : Int) = K) := hK
      clear hK
      go_wp2
      go_roundw
      case rel =>
        have hK := EK.out
        refine ⟨i + 1, by omega, by go_num, by congr 1; omega, ?_, ?_⟩
        · have h7 := row_put7 HO.out HN.out K (K + 1) (K + 1 + 1) (K + 1 + 1 + 1) (K + 1 + 1 + 1 + 1) (K + 1 + 1 + 1 + 1 + 1) ((K + 1 + 1 + 1 + 1 + 1 + 1) % 3 == 0)
          rw [markSTo_succ k0 hlt, hK]
          exact h7
        · exact grown_over2 HG.out (grown_over2 (grown_over2 (grown_over2 (grown_over2 (grown_over2 (grown_over2 (grown_set wr ⟨g, i * 7, none⟩ _) (grown_set _ ⟨g, i * 7 + 1, none⟩ _)) (grown_set _ ⟨g, i * 7 + 2, none⟩ _)) (grown_set _ ⟨g, i * 7 + 3, none⟩ _)) (grown_set _ ⟨g, i * 7 + 4, none⟩ _)) (grown_set _ ⟨g, i * 7 + 5, none⟩ _)) (grown_set _ ⟨g, i * 7 + 6, none⟩ _))
      case measure => simp [intOf]; omega
    · obtain rfl : i = l.length := by omega
      go_wp2
      go_ret
      exact ⟨rfl, by rw [← markSTo_all]; exact ho, hg⟩

set_option maxHeartbeats 4000000 in
set_option maxRecDepth 20000 in
theorem heldSteps_row (k0 : Int) (g cap base n : Nat) (w : World) (hn : n ≤ 1048576) (hk : 0 ≤ k0 ∧ k0 ≤ 1000) (h : w.ownsRow base 102 7 (.slice (some ⟨g, 0, none⟩) n cap) n (stepCells (markL k0 n))) :
    Calls Tryz.prog 74 #[.slice (some ⟨g, 0, none⟩) n cap, .int .i64 k0] w fun e w' => e = .returned (.int .i64 (k0 + ((n * 7 : Nat) : Int))) ∧ w' = w := by
  obtain ⟨k1, k2⟩ := hk
  go_enter Tryz.func74, Tryz.ntmps74
  go_wp2
  go_loopw [1, 5] (fun v u wr => ∃ i : Nat, i ≤ n ∧ u = .int .i64 i ∧ v = .int .i64 (k0 + ((i * 7 : Nat) : Int)) ∧ wr = w) (fun _ u _ => n - (intOf u).toNat)
  case atStart => exact ⟨0, Nat.zero_le _, rfl, by simp, rfl⟩
  case round =>
    obtain ⟨i, hi, rfl, rfl, rfl⟩ := hrel
    by_cases hlt : i < n
    · have hnow := markL_get k0 hlt
      generalize hK : k0 + ((i * 7 : Nat) : Int) = K at hnow ⊢
      have c0 : wr.cell? ⟨g, i * 7, none⟩ = some (.int .i64 K) := (h.cellAt (i * 7) (by omega)).trans (stepCells_at _ i _ 0 hnow (by decide))
      have c1 : wr.cell? ⟨g, i * 7 + 1, none⟩ = some (.int .i64 (K + 1)) := (h.cellAt (i * 7 + 1) (by omega)).trans (stepCells_at _ i _ 1 hnow (by decide))
      have c2 : wr.cell? ⟨g, i * 7 + 2, none⟩ = some (.int .i64 (K + 1 + 1)) := (h.cellAt (i * 7 + 2) (by omega)).trans (stepCells_at _ i _ 2 hnow (by decide))
      have c3 : wr.cell? ⟨g, i * 7 + 3, none⟩ = some (.int .i64 (K + 1 + 1 + 1)) := (h.cellAt (i * 7 + 3) (by omega)).trans (stepCells_at _ i _ 3 hnow (by decide))
      have c4 : wr.cell? ⟨g, i * 7 + 4, none⟩ = some (.int .i64 (K + 1 + 1 + 1 + 1)) := (h.cellAt (i * 7 + 4) (by omega)).trans (stepCells_at _ i _ 4 hnow (by decide))
      have c5 : wr.cell? ⟨g, i * 7 + 5, none⟩ = some (.int .i64 (K + 1 + 1 + 1 + 1 + 1)) := (h.cellAt (i * 7 + 5) (by omega)).trans (stepCells_at _ i _ 5 hnow (by decide))
      have c6 : wr.cell? ⟨g, i * 7 + 6, none⟩ = some (.bool ((K + 1 + 1 + 1 + 1 + 1 + 1) % 3 == 0)) := (h.cellAt (i * 7 + 6) (by omega)).trans (stepCells_at _ i _ 6 hnow (by decide))
      have i0 : (0 : Int) ≤ (i : Int) := by omega
      have i1 : (i : Int) < (n : Int) := by omega
      have b1 : 0 ≤ K ∧ K ≤ 10000000 := by omega
      obtain ⟨b2, b3⟩ := b1
      have EK : Hid (k0 + ((i * 7 : Nat) : Int) = K) := hK
      clear hK hnow
      go_wp2
      go_roundw
      case rel =>
        have hK := EK.out
        exact ⟨i + 1, by omega, by go_num, by congr 1; omega, by simp⟩
      case measure => simp [intOf]; omega
    · obtain rfl : i = n := by omega
      go_wp2
      go_ret
      exact ⟨rfl, rfl⟩

/-- Steps that a call owns, as the walk meets them. -/
theorem steps_of {w : World} {base : Nat} {v : Value} {l : List Stp} (h : w.ownsRow base 102 7 v l.length (stepCells l)) : ∃ a b cap, v = .slice a l.length cap ∧ StepsAt w a b 0 l := by
  rcases h.2 with ⟨rfl, h0⟩ | ⟨g, cap, cur, rfl, _⟩
  · have : l = [] := List.eq_nil_of_length_eq_zero h0
    subst this
    exact ⟨none, 0, 0, rfl, ⟨fun h => absurd rfl h, fun h => absurd rfl h, fun i t hi => by simp at hi⟩⟩
  · exact ⟨some ⟨g, 0, none⟩, g, cap, rfl, steps_owned h⟩
end Go.Proofs.YtfmdejilhbankaaGreat
