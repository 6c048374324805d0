/- Plain data of steps and paths, as the specification and the program test them; nothing of the program's text is named here. -/
import Derived.WalkKit
import Derived.Deep.MidRow
namespace Go.Proofs.YtijcdikekgmfoaaGreatDoor
open Go.RowKit

/-- A step, as numbers. -/
structure Stp where
  x : Int
  y : Int
  lo : Int
  hi : Int
  fr : Int
  by_ : Int
  ho : Bool

/-- Its cells. -/
abbrev Stp.cells (s : Stp) : List Value := [.int .i64 s.x, .int .i64 s.y, .int .i64 s.lo, .int .i64 s.hi, .int .i64 s.fr, .int .i64 s.by_, .bool s.ho]
/-- It as a value. -/
abbrev Stp.val (s : Stp) : Value := .agg #[.int .i64 s.x, .int .i64 s.y, .int .i64 s.lo, .int .i64 s.hi, .int .i64 s.fr, .int .i64 s.by_, .bool s.ho]
/-- The step of zeros. -/
def Stp.zero : Stp := ⟨0, 0, 0, 0, 0, 0, false⟩

/-- n is between a and b. -/
def inB (n a b : Int) : Bool := decide (a ≤ n) && decide (n ≤ b)
theorem inB_iff (n a b : Int) : inB n a b = true ↔ a ≤ n ∧ n ≤ b := by simp [inB]

/-- Ascending, from the least to the most. -/
def ordB (a b c d : Int) : Bool := decide (a ≤ b ∧ b ≤ c ∧ c ≤ d)
/-- A kind within its bounds. -/
def kindB (q s : Int) : Bool := decide (1 ≤ q ∧ q ≤ s ∧ s ≤ 50)
/-- A step within its bounds. -/
def stepB (x y lo hi fr by_ : Int) : Bool :=
  decide (0 ≤ x ∧ x ≤ 15 ∧ 0 ≤ y ∧ y ≤ 15 ∧ 0 ≤ lo ∧ lo ≤ hi ∧ hi ≤ 6 ∧ 0 ≤ fr ∧ fr ≤ by_ ∧ by_ ≤ 10000)
/-- Of two steps that are within their bounds: the second can stand behind the first. -/
def nextB (x y lo hi x' y' lo' hi' : Int) : Bool :=
  decide (-1 ≤ x - x' ∧ x - x' ≤ 1 ∧ -1 ≤ y - y' ∧ y - y' ≤ 1 ∧ (x ≠ x' ∨ y ≠ y') ∧ lo ≤ hi' ∧ lo' ≤ hi)

/-- A level in common. -/
def levB (lo hi lo' hi' : Int) : Bool := decide (lo ≤ hi') && decide (lo' ≤ hi)
/-- As the program asks it. -/
def folB (x y lo hi x' y' lo' hi' : Int) : Bool := !((x == x') && (y == y')) && inB (wrap64 (x - x')) (-1) 1 && inB (wrap64 (y - y')) (-1) 1 && levB lo hi lo' hi'

def Stp.okB (s : Stp) : Bool := stepB s.x s.y s.lo s.hi s.fr s.by_
def Stp.nextB (s t : Stp) : Bool := Go.Proofs.YtijcdikekgmfoaaGreatDoor.nextB s.x s.y s.lo s.hi t.x t.y t.lo t.hi

/-- The cells of a list of steps lie in block b from offset o on, seven each. -/
structure StepsAt (w : World) (a : Option Addr) (b o : Nat) (l : List Stp) : Prop where
  here : l ≠ [] → a = some ⟨b, o, none⟩
  lt : l ≠ [] → b < w.heap.size
  cell : ∀ (i : Nat) (s : Stp), l[i]? = some s → w.rangeAt b (o + i * 7) s.cells

theorem StepsAt.below {w w' : World} {a : Option Addr} {b o B : Nat} {l : List Stp} (h : StepsAt w a b o l) (hb : Below B w w') (hB : l ≠ [] → b < B) : StepsAt w' a b o l where
  here := h.here
  lt hl := Nat.lt_of_lt_of_le (h.lt hl) hb.size
  cell i s hi j v hv := by
    have hne : l ≠ [] := by intro e; subst e; simp at hi
    rw [hb.cell (p := ⟨b, o + i * 7 + j, none⟩) (hB hne)]
    exact h.cell i s hi j v hv

/-- The seven cells of the i-th step, as a walk asks for them. -/
theorem StepsAt.seven {w : World} {a : Option Addr} {b o : Nat} {l : List Stp} (h : StepsAt w a b o l) {i : Nat} {s : Stp} (hi : l[i]? = some s) :
    w.cell? ⟨b, o + i * 7, none⟩ = some (.int .i64 s.x) ∧ w.cell? ⟨b, o + i * 7 + 1, none⟩ = some (.int .i64 s.y) ∧ w.cell? ⟨b, o + i * 7 + 2, none⟩ = some (.int .i64 s.lo) ∧ w.cell? ⟨b, o + i * 7 + 3, none⟩ = some (.int .i64 s.hi) ∧
    w.cell? ⟨b, o + i * 7 + 4, none⟩ = some (.int .i64 s.fr) ∧ w.cell? ⟨b, o + i * 7 + 5, none⟩ = some (.int .i64 s.by_) ∧ w.cell? ⟨b, o + i * 7 + 6, none⟩ = some (.bool s.ho) := by
  have hr := h.cell i s hi
  exact ⟨hr 0 _ rfl, hr 1 _ rfl, hr 2 _ rfl, hr 3 _ rfl, hr 4 _ rfl, hr 5 _ rfl, hr 6 _ rfl⟩

theorem old_cells {W w1 : World} {B : Nat} (hb : Below B W w1) : (∀ b o, b < B → w1.cell? ⟨b, o, none⟩ = W.cell? ⟨b, o, none⟩) ∧ (∀ b o, b < B → w1.frozen? ⟨b, o, none⟩ = W.frozen? ⟨b, o, none⟩) :=
  ⟨fun b o h => hb.cell (p := ⟨b, o, none⟩) h, fun b o h => hb.frozen (p := ⟨b, o, none⟩) h⟩

theorem Stp.one (s : Stp) : (#[Value.int .i64 s.x, .int .i64 s.y, .int .i64 s.lo, .int .i64 s.hi, .int .i64 s.fr, .int .i64 s.by_, .bool s.ho].all (·.oneCell')) = true := by
  simp [Value.oneCell']

theorem there_of_block {w : World} {b : Nat} {C : Array Value} {t : TypeId} (hb : w.heap[b]? = some (.cells C t (0, 0))) (o n : Nat) (h : o + n ≤ C.size) : w.there b o n := fun j hj =>
  ⟨by rw [cell_of_row w b (o + j) C t _ hb]; simp; omega, frozen_of_row w b _ C t hb⟩

theorem there_below {w w' : World} {B b o n : Nat} (h : w.there b o n) (hb : Below B w w') (hB : b < B) : w'.there b o n := fun j hj =>
  ⟨by rw [hb.cell (p := ⟨b, o + j, none⟩) hB]; exact (h j hj).1, by rw [hb.frozen (p := ⟨b, o + j, none⟩) hB]; exact (h j hj).2⟩

theorem range_below {w w' : World} {B b o : Nat} {cs : List Value} (h : w.rangeAt b o cs) (hb : Below B w w') (hB : b < B) : w'.rangeAt b o cs := fun j v hv => by
  rw [hb.cell (p := ⟨b, o + j, none⟩) hB]; exact h j v hv

theorem below_setCells {B b : Nat} (hB : B ≤ b) : ∀ (vs : List Value) (o : Nat) (a w : World), Below B a w → Below B a (w.setCells b o vs)
  | [], _, _, _, h => h
  | v :: r, o, a, w, h => by
    rw [World.setCells]
    exact below_setCells hB r (o + 1) a _ (h.setCell (p := ⟨b, o, none⟩) hB v)

theorem size_setCells (b : Nat) : ∀ (vs : List Value) (o : Nat) (w : World), (w.setCells b o vs).heap.size = w.heap.size
  | [], _, _ => rfl
  | v :: r, o, w => by
    rw [World.setCells, size_setCells b r (o + 1)]
    simp [World.setCell]

theorem lt_of_there {w : World} {b o n : Nat} (h : w.there b o n) (hn : 0 < n) : b < w.heap.size := by
  obtain ⟨u, hu⟩ := Option.isSome_iff_exists.1 (h 0 hn).1
  exact World.block_lt_of_cell? w _ hu

theorem StepsAt.set {w : World} {a : Option Addr} {b o : Nat} {l : List Stp} (h : StepsAt w a b o l) {p : Addr} (hp : p.block ≠ b) (v : Value) : StepsAt (w.setCell p v) a b o l where
  here := h.here
  lt hl := by have := h.lt hl; simpa [World.setCell] using this
  cell i s hi j u hu := by
    rw [World.cell?_setCell_other _ _ _ _ (by intro e; exact hp (by rw [e]))]
    exact h.cell i s hi j u hu

theorem StepsAt.alloc {w : World} {a : Option Addr} {b o : Nat} {l : List Stp} (h : StepsAt w a b o l) (ob : Obj) : StepsAt (w.alloc ob) a b o l where
  here := h.here
  lt hl := by have := h.lt hl; simp; omega
  cell i s hi := World.rangeAt_alloc (h.cell i s hi) ob

/-- The i-th step is within its bounds, and can stand behind the one ahead of it. -/
def goodS (l : List Stp) (i : Nat) : Bool :=
  stepB (l.getD i .zero).x (l.getD i .zero).y (l.getD i .zero).lo (l.getD i .zero).hi (l.getD i .zero).fr (l.getD i .zero).by_ &&
    (decide (i = 0) || folB (l.getD (i - 1) .zero).x (l.getD (i - 1) .zero).y (l.getD (i - 1) .zero).lo (l.getD (i - 1) .zero).hi (l.getD i .zero).x (l.getD i .zero).y (l.getD i .zero).lo (l.getD i .zero).hi)
/-- So are the first k. -/
def goodTo (l : List Stp) (k : Nat) : Bool := (List.range k).all (goodS l)
theorem goodTo_zero (l : List Stp) : goodTo l 0 = true := rfl
theorem goodTo_succ (l : List Stp) (k : Nat) : goodTo l (k + 1) = (goodTo l k && goodS l k) := by
  simp [goodTo, List.range_succ, List.all_append]
theorem goodTo_le {l : List Stp} {k n : Nat} (h : goodTo l n = true) (hk : k ≤ n) : goodTo l k = true := by
  simp [goodTo] at *; intro i hi; exact h i (by omega)
theorem goodTo_not {l : List Stp} {k n : Nat} (hk : k < n) (h : goodS l k = false) : goodTo l n = false := by
  cases e : goodTo l n with
  | false => rfl
  | true =>
    have := goodTo_le e (show k + 1 ≤ n by omega)
    rw [goodTo_succ, h] at this
    simp at this
/-- A path is ok. -/
def pathB (q s fr b : Int) (l : List Stp) : Bool := kindB q s && inB l.length 1 40 && inB fr 0 b && decide (b ≤ 10000) && goodTo l l.length

theorem goodS_bad {l : List Stp} {k : Nat} {t : Stp} (ht : l.getD k .zero = t) (h : stepB t.x t.y t.lo t.hi t.fr t.by_ = false) : goodS l k = false := by
  unfold goodS; rw [ht, h]; rfl
theorem goodS_first {l : List Stp} {t : Stp} (ht : l.getD 0 .zero = t) (h : stepB t.x t.y t.lo t.hi t.fr t.by_ = true) : goodS l 0 = true := by
  unfold goodS; rw [ht, h]; rfl
theorem goodS_next {l : List Stp} {m : Nat} {p t : Stp} {v : Bool} (ht : l.getD (m + 1) .zero = t) (hp : l.getD m .zero = p) (h : stepB t.x t.y t.lo t.hi t.fr t.by_ = true)
    (hf : folB p.x p.y p.lo p.hi t.x t.y t.lo t.hi = v) : goodS l (m + 1) = v := by
  unfold goodS; rw [Nat.add_sub_cancel, ht, hp, h, hf]; simp
/-- What is left of a measure behind n more. -/
def leftB (left : Int) (n : Nat) : Int := if left - n < 0 then -1 else left - n
theorem leftB_left (left : Int) (n : Nat) (h0 : -1 ≤ left) (h1 : left ≤ 1048576) : -1 ≤ leftB left n ∧ leftB left n ≤ 1048576 := by
  unfold leftB; split <;> omega
end Go.Proofs.YtijcdikekgmfoaaGreatDoor
