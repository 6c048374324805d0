/- Plain data of what two paths share; when two steps, two kinds are the same, by the language's own comparison. -/
import Derived.Test.YtijcdikekgmfoaaGreatDoorData
import Derived.Test.YtijcdikekgmfoaaGreatDoorRows
import Derived.WalkKit
import Derived.WalkSpells
import Derived.Laws.StructEq
namespace Go.Proofs.YtijcdikekgmfoaaGreatDoor
open Go.RowKit

def sameB (t u : Stp) : Bool := t.x == u.x && (t.y == u.y && (t.lo == u.lo && (t.hi == u.hi && (t.fr == u.fr && (t.by_ == u.by_ && t.ho == u.ho)))))
def sameAt (l l' : List Stp) (j : Nat) : Bool := sameB (l.getD j .zero) (l'.getD j .zero)
def preN : List Stp → List Stp → Nat
  | t :: l, u :: l' => if sameB t u then preN l l' + 1 else 0
  | _, _ => 0
def kindEq (q s q' s' : Int) : Bool := q == q' && s == s'
def sharedN (q s : Int) (l : List Stp) (q' s' : Int) (l' : List Stp) : Nat := if kindEq q s q' s' then preN l l' else 0

theorem preN_at : ∀ (k : Nat) (l l' : List Stp), k ≤ l.length → k ≤ l'.length → (∀ j, j < k → sameAt l l' j = true) → (k = l.length ∨ k = l'.length ∨ sameAt l l' k = false) → preN l l' = k
  | 0, [], l', _, _, _, _ => by cases l' <;> rfl
  | 0, t :: l, [], _, _, _, _ => rfl
  | 0, t :: l, u :: l', _, _, _, h => by
    rcases h with h | h | h
    · simp at h
    · simp at h
    · unfold preN; rw [if_neg]; intro e; unfold sameAt at h; simp [e] at h
  | k + 1, [], _, h, _, _, _ => by simp at h
  | k + 1, t :: l, [], _, h, _, _ => by simp at h
  | k + 1, t :: l, u :: l', h1, h2, h3, h4 => by
    have h0 := h3 0 (by omega)
    unfold sameAt at h0
    simp at h0
    unfold preN
    rw [if_pos h0, preN_at k l l' (by simpa using h1) (by simpa using h2) (fun j hj => by have := h3 (j + 1) (by omega); unfold sameAt at this ⊢; simpa using this) (by
      rcases h4 with h | h | h
      · left; simpa using h
      · right; left; simpa using h
      · right; right; unfold sameAt at h ⊢; simpa using h)]

set_option maxHeartbeats 4000000 in
theorem run_eql_step (t u : Stp) (w : World) :
    (binOp .eql 44 (.agg #[.int .i64 t.x, .int .i64 t.y, .int .i64 t.lo, .int .i64 t.hi, .int .i64 t.fr, .int .i64 t.by_, .bool t.ho]) (.agg #[.int .i64 u.x, .int .i64 u.y, .int .i64 u.lo, .int .i64 u.hi, .int .i64 u.fr, .int .i64 u.by_, .bool u.ho])).run Tryz.prog w = .ok (.bool (sameB t u)) w := by
  unfold sameB
  cases h0 : t.x == u.x with
  | false => simp [go_sem, h0]
  | true =>
    cases h1 : t.y == u.y with
    | false => simp [go_sem, h0, h1]
    | true =>
      cases h2 : t.lo == u.lo with
      | false => simp [go_sem, h0, h1, h2]
      | true =>
        cases h3 : t.hi == u.hi with
        | false => simp [go_sem, h0, h1, h2, h3]
        | true =>
          cases h4 : t.fr == u.fr with
          | false => simp [go_sem, h0, h1, h2, h3, h4]
          | true =>
            cases h5 : t.by_ == u.by_ with
            | false => simp [go_sem, h0, h1, h2, h3, h4, h5]
            | true =>
              cases h6 : t.ho == u.ho with
              | false => simp [go_sem, h0, h1, h2, h3, h4, h5, h6]
              | true =>
                simp [go_sem, h0, h1, h2, h3, h4, h5, h6]

theorem run_eql_kind (q s q' s' : Int) (w : World) : (binOp .eql 24 (.agg #[.int .i64 q, .int .i64 s]) (.agg #[.int .i64 q', .int .i64 s'])).run Tryz.prog w = .ok (.bool (kindEq q s q' s')) w := by
  unfold kindEq
  cases h0 : q == q' with
  | false => simp [go_sem, h0]
  | true =>
    cases h1 : s == s' with
    | false => simp [go_sem, h0, h1]
    | true => simp [go_sem, h0, h1]
theorem run_neq_kind (q s q' s' : Int) (w : World) : (binOp .neq 24 (.agg #[.int .i64 q, .int .i64 s]) (.agg #[.int .i64 q', .int .i64 s'])).run Tryz.prog w = .ok (.bool (!kindEq q s q' s')) w := by
  unfold kindEq
  cases h0 : q == q' with
  | false => simp [go_sem, h0]
  | true =>
    cases h1 : s == s' with
    | false => simp [go_sem, h0, h1]
    | true => simp [go_sem, h0, h1]
theorem run_neq_step (t u : Stp) (w : World) :
    (binOp .neq 44 (.agg #[.int .i64 t.x, .int .i64 t.y, .int .i64 t.lo, .int .i64 t.hi, .int .i64 t.fr, .int .i64 t.by_, .bool t.ho]) (.agg #[.int .i64 u.x, .int .i64 u.y, .int .i64 u.lo, .int .i64 u.hi, .int .i64 u.fr, .int .i64 u.by_, .bool u.ho])).run Tryz.prog w = .ok (.bool (!sameB t u)) w := by
  have h := run_eql_step t u w
  rw [run_eql_struct] at h
  rw [run_neq_struct]
  generalize (Op.equalIn 10000 44 (.agg #[.int .i64 t.x, .int .i64 t.y, .int .i64 t.lo, .int .i64 t.hi, .int .i64 t.fr, .int .i64 t.by_, .bool t.ho]) (.agg #[.int .i64 u.x, .int .i64 u.y, .int .i64 u.lo, .int .i64 u.hi, .int .i64 u.fr, .int .i64 u.by_, .bool u.ho])).run Tryz.prog w = r at h ⊢
  cases r with
  | ok b w' =>
    simp only [Result.andThen_ok, Result.ok.injEq, Value.bool.injEq] at h ⊢
    obtain ⟨rfl, rfl⟩ := h
    exact ⟨rfl, rfl⟩
  | _ => simp [Result.andThen] at h
end Go.Proofs.YtijcdikekgmfoaaGreatDoor
