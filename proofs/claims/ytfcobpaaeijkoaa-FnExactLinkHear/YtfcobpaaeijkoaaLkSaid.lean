/- What a word says, told by a type; by its contract. -/
import Derived.WalkKit
import Derived.WalkSpells
import Derived.Test.YtfcobpaaeijkoaaRows
import Derived.Test.YtfcobpaaeijkoaaLkWd
namespace Go.Proofs.Ytfcobpaaeijkoaa
open Go.RowKit

/-- A word's head and its path. -/
abbrev Wd.full (t : Wd) : Value := .agg #[.string t.nm, .int .i64 t.n, .int .i64 t.p.q, .int .i64 t.p.s, .slice t.p.a t.p.l.length t.p.cap, .int .i64 t.p.fr, .int .i64 t.p.b]
/-- A word's head. -/
abbrev Wd.head (t : Wd) : Value := .agg #[.string t.nm, .int .i64 t.n]

set_option maxHeartbeats 1000000 in
theorem said_1 (t : Wd) (w : World) (hk : t.k = 1) :
    Calls Try.prog 53 #[t.val] w fun e w' => e = .returned (.iface 114 t.full) ∧ Below w.heap.size w w' := by
  obtain ⟨k, nm, n, p⟩ := t
  simp only at hk
  subst hk
  go_enter Try.func53, Try.ntmps53
  go_wp2
  go_ret
  exact ⟨rfl, by first | exact bel2 _ _ | (repeat (refine Below.setCell ?_ (by simp) _)); exact bel2 _ _⟩

set_option maxHeartbeats 1000000 in
theorem said_2 (t : Wd) (w : World) (hk : t.k = 2) :
    Calls Try.prog 53 #[t.val] w fun e w' => e = .returned (.iface 88 t.full) ∧ Below w.heap.size w w' := by
  obtain ⟨k, nm, n, p⟩ := t
  simp only at hk
  subst hk
  go_enter Try.func53, Try.ntmps53
  go_wp2
  go_ret
  exact ⟨rfl, by first | exact bel2 _ _ | (repeat (refine Below.setCell ?_ (by simp) _)); exact bel2 _ _⟩

set_option maxHeartbeats 1000000 in
theorem said_3 (t : Wd) (w : World) (hk : t.k = 3) :
    Calls Try.prog 53 #[t.val] w fun e w' => e = .returned (.iface 104 t.head) ∧ Below w.heap.size w w' := by
  obtain ⟨k, nm, n, p⟩ := t
  simp only at hk
  subst hk
  go_enter Try.func53, Try.ntmps53
  go_wp2
  go_ret
  exact ⟨rfl, by first | exact bel2 _ _ | (repeat (refine Below.setCell ?_ (by simp) _)); exact bel2 _ _⟩

set_option maxHeartbeats 1000000 in
theorem said_4 (t : Wd) (w : World) (hk : t.k = 4) :
    Calls Try.prog 53 #[t.val] w fun e w' => e = .returned (.iface 106 t.head) ∧ Below w.heap.size w w' := by
  obtain ⟨k, nm, n, p⟩ := t
  simp only at hk
  subst hk
  go_enter Try.func53, Try.ntmps53
  go_wp2
  go_ret
  exact ⟨rfl, by first | exact bel2 _ _ | (repeat (refine Below.setCell ?_ (by simp) _)); exact bel2 _ _⟩

set_option maxHeartbeats 1000000 in
theorem said_5 (t : Wd) (w : World) (hk : t.k = 5) :
    Calls Try.prog 53 #[t.val] w fun e w' => e = .returned (.iface 105 t.head) ∧ Below w.heap.size w w' := by
  obtain ⟨k, nm, n, p⟩ := t
  simp only at hk
  subst hk
  go_enter Try.func53, Try.ntmps53
  go_wp2
  go_ret
  exact ⟨rfl, by first | exact bel2 _ _ | (repeat (refine Below.setCell ?_ (by simp) _)); exact bel2 _ _⟩

set_option maxHeartbeats 1000000 in
theorem said_6 (t : Wd) (w : World) (hk : t.k = 6) :
    Calls Try.prog 53 #[t.val] w fun e w' => e = .returned (.iface 101 t.head) ∧ Below w.heap.size w w' := by
  obtain ⟨k, nm, n, p⟩ := t
  simp only at hk
  subst hk
  go_enter Try.func53, Try.ntmps53
  go_wp2
  go_ret
  exact ⟨rfl, by first | exact bel2 _ _ | (repeat (refine Below.setCell ?_ (by simp) _)); exact bel2 _ _⟩

theorem said_no (t : Wd) (w : World) (h : inB t.k 1 6 = false) :
    Calls Try.prog 53 #[t.val] w fun e w' => e = .returned .nilIface ∧ Below w.heap.size w w' := by
  obtain ⟨k, nm, n, p⟩ := t
  simp only at h
  have h0 : ¬ (1 ≤ k ∧ k ≤ 6) := by rw [← inB_iff, h]; simp
  clear h
  have h1 : (k == 1) = false := beq_eq_false_iff_ne.2 (by omega)
  have h2 : (k == 2) = false := beq_eq_false_iff_ne.2 (by omega)
  have h3 : (k == 3) = false := beq_eq_false_iff_ne.2 (by omega)
  have h4 : (k == 4) = false := beq_eq_false_iff_ne.2 (by omega)
  have h5 : (k == 5) = false := beq_eq_false_iff_ne.2 (by omega)
  have h6 : (k == 6) = false := beq_eq_false_iff_ne.2 (by omega)
  clear h0
  go_enter Try.func53, Try.ntmps53
  go_wp2
  go_ret
  exact ⟨rfl, by first | exact bel2 _ _ | (repeat (refine Below.setCell ?_ (by simp) _)); exact bel2 _ _⟩
end Go.Proofs.Ytfcobpaaeijkoaa
