/- What is handed on of a cut path, and the program's small callees. -/
import Derived.Test.YtijcdikekgmfoaaGreatDoorLeftImpl
import Derived.Test.YtijcdikekgmfoaaGreatDoorIsNothing
namespace Go.Proofs.YtijcdikekgmfoaaGreatDoor
open Go.RowKit

theorem inside_any (z y1 y2 : Int) (w : World) :
    Calls Tryz.prog 104 #[.agg #[.int .i64 z, .int .i64 z], .agg #[.int .i64 y1, .int .i64 y2]] w fun e w' => e = .returned (.bool (inB z y1 y2)) ∧ Below w.heap.size w w' := by
  have he : inB z y1 y2 = (decide (y1 ≤ z) && decide (z ≤ y2)) := by rw [Bool.eq_iff_iff, inB_iff]; simp
  rw [he]
  go_enter Tryz.func104, Tryz.ntmps104
  cases h : decide (y1 ≤ z) with
  | false =>
    go_wp2
    go_ret
    exact ⟨rfl, ((Below.refl w.heap.size w).alloc (Nat.le_refl _) _).alloc (by simp) _⟩
  | true =>
    go_wp2
    go_ret
    exact ⟨rfl, ((Below.refl w.heap.size w).alloc (Nat.le_refl _) _).alloc (by simp) _⟩

/-- A path and an error, as they are handed on. -/
def LG (A : Ans) (base : Nat) (w' : World) (q s fr b : Int) (a : Option Addr) (n c : Nat) (err : Value) : Prop :=
  (A.ok = true ∧ q = A.q ∧ s = A.s ∧ fr = A.fr ∧ b = A.b ∧ n = A.l.length ∧ err = .nilIface ∧ w'.ownsRow base 44 7 (.slice a n c) n (stepCells A.l)) ∨
  (A = .no ∧ q = 0 ∧ s = 0 ∧ fr = 0 ∧ b = 0 ∧ a = none ∧ n = 0 ∧ c = 0 ∧ ∃ str, err = nothingV str)
def Hands (A : Ans) (w : World) (e : Ending) (w' : World) : Prop :=
  ∃ (q s fr b : Int) (a : Option Addr) (n c : Nat) (err : Value), e = .returned (.tuple #[.agg #[.int .i64 q, .int .i64 s, .slice a n c, .int .i64 fr, .int .i64 b], err]) ∧ LG A w.heap.size w' q s fr b a n c err ∧ Below w.heap.size w w'
theorem LeftGives.hands {A : Ans} {w w' : World} {e : Ending} (h : LeftGives A w e w') : Hands A w e w' := by
  obtain ⟨hb, ⟨ho, g, gc, he, hr⟩ | ⟨hA, str, he⟩⟩ := h
  · exact ⟨A.q, A.s, A.fr, A.b, _, _, gc, _, he, Or.inl ⟨ho, rfl, rfl, rfl, rfl, rfl, rfl, hr⟩, hb⟩
  · exact ⟨0, 0, 0, 0, none, 0, 0, _, he, Or.inr ⟨hA, rfl, rfl, rfl, rfl, rfl, rfl, rfl, str, rfl⟩, hb⟩
theorem LG.base {A : Ans} {base base' : Nat} {w' : World} {q s fr b : Int} {a : Option Addr} {n c : Nat} {err : Value} (h : LG A base w' q s fr b a n c err) (hb : base' ≤ base) : LG A base' w' q s fr b a n c err := by
  rcases h with ⟨h1, h2, h3, h4, h5, h6, h7, h8⟩ | h
  · exact Or.inl ⟨h1, h2, h3, h4, h5, h6, h7, ⟨h8.1, h8.2.imp id fun ⟨g, cap, cur, k1, k2, k3⟩ => ⟨g, cap, cur, k1, by omega, k3⟩⟩⟩
  · exact Or.inr h
theorem LG.set {A : Ans} {base : Nat} {w' : World} {q s fr b : Int} {a : Option Addr} {n c : Nat} {err : Value} (h : LG A base w' q s fr b a n c err) {Z : Nat} (hZ : Z < base) (j : Nat) (u : Value) : LG A base (w'.setCell ⟨Z, j, none⟩ u) q s fr b a n c err := by
  rcases h with ⟨h1, h2, h3, h4, h5, h6, h7, h8⟩ | h
  · exact Or.inl ⟨h1, h2, h3, h4, h5, h6, h7, owns_set h8 (fun k hk => by have := owns_base h8 k hk; omega) j u⟩
  · exact Or.inr h

theorem spanCells_two {xs : List (Int × Int)} {i : Nat} {x : Int × Int} (h : xs[i]? = some x) : (spanCells xs)[i * 2]? = some (.int .i64 x.1) ∧ (spanCells xs)[i * 2 + 1]? = some (.int .i64 x.2) := spanCells_get xs i x h

end Go.Proofs.YtijcdikekgmfoaaGreatDoor
