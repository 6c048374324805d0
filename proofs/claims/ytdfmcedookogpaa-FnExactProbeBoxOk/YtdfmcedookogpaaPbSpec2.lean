/- The specification's ProbeClose. -/
import Derived.Test.YtdfmcedookogpaaPbSpec
import Derived.Test.YtdfmcedookogpaaCls
namespace Go.Proofs.Ytdfmcedookogpaa
open Go.RowKit

set_option maxHeartbeats 1000000 in
theorem closeP_any (x y lo hi i o x' y' lo' hi' i' o' : Int) (w : World) :
    Calls Try.prog 12 #[.agg #[.int .i64 x, .int .i64 y, .int .i64 lo, .int .i64 hi, .int .i64 i, .int .i64 o], .agg #[.int .i64 x', .int .i64 y', .int .i64 lo', .int .i64 hi', .int .i64 i', .int .i64 o']] w
      fun e w' => e = .returned (.tuple #[.int .i64 (closeT ⟨x, y, lo, hi, i, o⟩ ⟨x', y', lo', hi', i', o'⟩), .bool (closeB ⟨x, y, lo, hi, i, o⟩ ⟨x', y', lo', hi', i', o'⟩)]) ∧ Below w.heap.size w w' := by
  rcases Bool.eq_false_or_eq_true (boxB ⟨x, y, lo, hi, i, o⟩) with h1 | h1
  rcases Bool.eq_false_or_eq_true (boxB ⟨x', y', lo', hi', i', o'⟩) with h2 | h2
  · have H1 : Hid (boxB ⟨x, y, lo, hi, i, o⟩ = true) := h1
    have H2 : Hid (boxB ⟨x', y', lo', hi', i', o'⟩ = true) := h2
    clear h1 h2
    go_enter Try.func12, Try.ntmps12
    go_wp2_with fail
    refine (boxOkS_val ⟨x, y, lo, hi, i, o⟩ true _ H1.out).mono ?_
    rintro e w1 ⟨rfl, hb1⟩
    obtain ⟨hc1, _⟩ := old_cells hb1
    have r0 : ∀ j, w1.cell? ⟨w.heap.size, j, none⟩ = _ := fun j => hc1 w.heap.size j (by simp; omega)
    have r1 : ∀ j, w1.cell? ⟨w.heap.size + 1, j, none⟩ = _ := fun j => hc1 (w.heap.size + 1) j (by simp)
    have z1 := hb1.size
    simp at z1
    have B1 : Below w.heap.size w w1 := (((Below.refl w.heap.size w).alloc (Nat.le_refl _) _).alloc (by simp) _).trans (hb1.mono (by simp; omega))
    clear hb1 hc1
    go_wp2_with fail
    refine (boxOkS_val ⟨x', y', lo', hi', i', o'⟩ true _ H2.out).mono ?_
    rintro e w2 ⟨rfl, hb2⟩
    obtain ⟨hc2, _⟩ := old_cells hb2
    have s0 : ∀ j, w2.cell? ⟨w.heap.size, j, none⟩ = _ := fun j => (hc2 w.heap.size j (by omega)).trans (r0 j)
    have s1 : ∀ j, w2.cell? ⟨w.heap.size + 1, j, none⟩ = _ := fun j => (hc2 (w.heap.size + 1) j (by omega)).trans (r1 j)
    clear r0 r1 hc2
    go_wp2_with fail
    refine (closeS_any x y lo hi i o x' y' lo' hi' i' o' _ H1.out H2.out).mono ?_
    rintro e w3 ⟨rfl, hb3⟩
    go_wp2
    go_ret2
    exact ⟨rfl, (B1.trans (hb2.mono B1.size)).trans (hb3.mono (Nat.le_trans B1.size hb2.size))⟩
  · have EB : Hid (closeB ⟨x, y, lo, hi, i, o⟩ ⟨x', y', lo', hi', i', o'⟩ = false) := by show _ = _; unfold closeB; rw [h2]; simp
    have ET : Hid (closeT ⟨x, y, lo, hi, i, o⟩ ⟨x', y', lo', hi', i', o'⟩ = 0) := by show _ = _; unfold closeT; rw [h2]; simp
    have H1 : Hid (boxB ⟨x, y, lo, hi, i, o⟩ = true) := h1
    have H2 : Hid (boxB ⟨x', y', lo', hi', i', o'⟩ = false) := h2
    clear h1 h2
    go_enter Try.func12, Try.ntmps12
    go_wp2_with fail
    refine (boxOkS_val ⟨x, y, lo, hi, i, o⟩ true _ H1.out).mono ?_
    rintro e w1 ⟨rfl, hb1⟩
    obtain ⟨hc1, _⟩ := old_cells hb1
    have r0 : ∀ j, w1.cell? ⟨w.heap.size, j, none⟩ = _ := fun j => hc1 w.heap.size j (by simp; omega)
    have r1 : ∀ j, w1.cell? ⟨w.heap.size + 1, j, none⟩ = _ := fun j => hc1 (w.heap.size + 1) j (by simp)
    have B1 : Below w.heap.size w w1 := (((Below.refl w.heap.size w).alloc (Nat.le_refl _) _).alloc (by simp) _).trans (hb1.mono (by simp; omega))
    clear hb1 hc1
    go_wp2_with fail
    refine (boxOkS_val ⟨x', y', lo', hi', i', o'⟩ false _ H2.out).mono ?_
    rintro e w2 ⟨rfl, hb2⟩
    go_wp2
    go_ret2
    exact ⟨by rw [EB.out, ET.out]; rfl, B1.trans (hb2.mono B1.size)⟩
  · have EB : Hid (closeB ⟨x, y, lo, hi, i, o⟩ ⟨x', y', lo', hi', i', o'⟩ = false) := by show _ = _; unfold closeB; rw [h1]; simp
    have ET : Hid (closeT ⟨x, y, lo, hi, i, o⟩ ⟨x', y', lo', hi', i', o'⟩ = 0) := by show _ = _; unfold closeT; rw [h1]; simp
    have H1 : Hid (boxB ⟨x, y, lo, hi, i, o⟩ = false) := h1
    clear h1
    go_enter Try.func12, Try.ntmps12
    go_wp2_with fail
    refine (boxOkS_val ⟨x, y, lo, hi, i, o⟩ false _ H1.out).mono ?_
    rintro e w1 ⟨rfl, hb1⟩
    have B1 : Below w.heap.size w w1 := (((Below.refl w.heap.size w).alloc (Nat.le_refl _) _).alloc (by simp) _).trans (hb1.mono (by simp; omega))
    go_wp2
    go_ret2
    exact ⟨by rw [EB.out, ET.out]; rfl, B1⟩
end Go.Proofs.Ytdfmcedookogpaa
