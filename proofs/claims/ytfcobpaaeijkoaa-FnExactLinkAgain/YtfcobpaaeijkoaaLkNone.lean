/- A path that is nothing, on both sides, by its contract. -/
import Derived.Test.YtfcobpaaeijkoaaLkPt
import Derived.Test.YtfcobpaaeijkoaaSharedData
namespace Go.Proofs.Ytfcobpaaeijkoaa
open Go.RowKit

theorem none_as (p : Pt) : p.none = (kindEq p.q p.s 0 0 && decide (p.l.length = 0) && (p.fr == 0) && (p.b == 0)) := rfl

theorem noneS_any (p : Pt) (w : World) :
    Calls Try.prog 21 #[p.val] w fun e w' => e = .returned (.bool p.none) ∧ Below w.heap.size w w' := by
  obtain ⟨q, s, fr, b, a, b0, o, cap, l⟩ := p
  have eqk := run_eql_kind q s 0 0
  rcases Bool.eq_false_or_eq_true (kindEq q s 0 0) with h1 | h1
  · by_cases h2 : l.length = 0
    · have : l = [] := List.eq_nil_of_length_eq_zero h2
      subst this
      by_cases h3 : fr = 0
      · subst h3
        by_cases h4 : b = 0
        · subst h4
          have ER : Hid (Pt.none ⟨q, s, 0, 0, a, b0, o, cap, []⟩ = true) := by show _ = _; rw [none_as]; simp [h1]
          go_enter Try.func21, Try.ntmps21
          go_wp2
          go_ret
          exact ⟨by rw [ER.out]; rfl, bel1 _⟩
        · have ER : Hid (Pt.none ⟨q, s, 0, b, a, b0, o, cap, []⟩ = false) := by show _ = _; rw [none_as]; simp [h4]
          have h5 : (b == 0) = false := beq_eq_false_iff_ne.2 h4
          go_enter Try.func21, Try.ntmps21
          go_wp2
          go_ret
          exact ⟨by rw [ER.out]; rfl, bel1 _⟩
      · have ER : Hid (Pt.none ⟨q, s, fr, b, a, b0, o, cap, []⟩ = false) := by show _ = _; rw [none_as]; simp [h3]
        have h5 : (fr == 0) = false := beq_eq_false_iff_ne.2 h3
        go_enter Try.func21, Try.ntmps21
        go_wp2
        go_ret
        exact ⟨by rw [ER.out]; rfl, bel1 _⟩
    · have ER : Hid (Pt.none ⟨q, s, fr, b, a, b0, o, cap, l⟩ = false) := by show _ = _; rw [none_as]; simp; intro _ h; subst h; simp at h2
      have h5 : ((l.length : Int) == 0) = false := beq_eq_false_iff_ne.2 (by omega)
      go_enter Try.func21, Try.ntmps21
      go_wp2
      go_ret
      exact ⟨by rw [ER.out]; rfl, bel1 _⟩
  · have ER : Hid (Pt.none ⟨q, s, fr, b, a, b0, o, cap, l⟩ = false) := by show _ = _; rw [none_as]; simp [h1]
    go_enter Try.func21, Try.ntmps21
    go_wp2
    go_ret
    exact ⟨by rw [ER.out]; rfl, bel1 _⟩

theorem noneI_any (p : Pt) (w : World) :
    Calls Try.prog 25 #[p.val] w fun e w' => e = .returned (.bool p.none) ∧ Below w.heap.size w w' := by
  obtain ⟨q, s, fr, b, a, b0, o, cap, l⟩ := p
  have eqk := run_eql_kind q s 0 0
  rcases Bool.eq_false_or_eq_true (kindEq q s 0 0) with h1 | h1
  · by_cases h2 : l.length = 0
    · have : l = [] := List.eq_nil_of_length_eq_zero h2
      subst this
      by_cases h3 : fr = 0
      · subst h3
        by_cases h4 : b = 0
        · subst h4
          have ER : Hid (Pt.none ⟨q, s, 0, 0, a, b0, o, cap, []⟩ = true) := by show _ = _; rw [none_as]; simp [h1]
          go_enter Try.func25, Try.ntmps25
          go_wp2
          go_ret
          exact ⟨by rw [ER.out]; rfl, bel1 _⟩
        · have ER : Hid (Pt.none ⟨q, s, 0, b, a, b0, o, cap, []⟩ = false) := by show _ = _; rw [none_as]; simp [h4]
          have h5 : (b == 0) = false := beq_eq_false_iff_ne.2 h4
          go_enter Try.func25, Try.ntmps25
          go_wp2
          go_ret
          exact ⟨by rw [ER.out]; rfl, bel1 _⟩
      · have ER : Hid (Pt.none ⟨q, s, fr, b, a, b0, o, cap, []⟩ = false) := by show _ = _; rw [none_as]; simp [h3]
        have h5 : (fr == 0) = false := beq_eq_false_iff_ne.2 h3
        go_enter Try.func25, Try.ntmps25
        go_wp2
        go_ret
        exact ⟨by rw [ER.out]; rfl, bel1 _⟩
    · have ER : Hid (Pt.none ⟨q, s, fr, b, a, b0, o, cap, l⟩ = false) := by show _ = _; rw [none_as]; simp; intro _ h; subst h; simp at h2
      have h5 : ((l.length : Int) == 0) = false := beq_eq_false_iff_ne.2 (by omega)
      go_enter Try.func25, Try.ntmps25
      go_wp2
      go_ret
      exact ⟨by rw [ER.out]; rfl, bel1 _⟩
  · have ER : Hid (Pt.none ⟨q, s, fr, b, a, b0, o, cap, l⟩ = false) := by show _ = _; rw [none_as]; simp [h1]
    go_enter Try.func25, Try.ntmps25
    go_wp2
    go_ret
    exact ⟨by rw [ER.out]; rfl, bel1 _⟩
end Go.Proofs.Ytfcobpaaeijkoaa
