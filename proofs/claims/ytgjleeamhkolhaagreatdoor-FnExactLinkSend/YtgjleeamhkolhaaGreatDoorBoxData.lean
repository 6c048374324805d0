/- Plain data of boxes, as the specification and the program read them; nothing of the program's text is named here. -/
import Derived.Test.YtgjleeamhkolhaaGreatDoorData
namespace Go.Proofs.YtgjleeamhkolhaaGreatDoor
open Go.RowKit

/-- A box, as numbers. -/
structure Bx where
  x : Int
  y : Int
  lo : Int
  hi : Int
  in_ : Int
  out : Int

/-- Its cells. -/
abbrev Bx.cells (s : Bx) : List Value := [.int .i64 s.x, .int .i64 s.y, .int .i64 s.lo, .int .i64 s.hi, .int .i64 s.in_, .int .i64 s.out]
/-- The box of zeros. -/
def Bx.zero : Bx := ⟨0, 0, 0, 0, 0, 0⟩
theorem Bx.one (s : Bx) : (#[Value.int .i64 s.x, .int .i64 s.y, .int .i64 s.lo, .int .i64 s.hi, .int .i64 s.in_, .int .i64 s.out].all (·.oneCell')) = true := by
  simp [Value.oneCell']

/-- A box has a place at a tick. -/
def hasB (s : Bx) (x y l t : Int) : Bool := (s.x == x) && (s.y == y) && inB l s.lo s.hi && inB t s.in_ s.out
/-- A box has all of another one. -/
def coverB (b a : Bx) : Bool := (a.x == b.x) && (a.y == b.y) && decide (b.lo ≤ a.lo) && decide (a.hi ≤ b.hi) && decide (b.in_ ≤ a.in_) && decide (a.out ≤ b.out)
/-- A box has nothing. -/
def noneB (a : Bx) : Bool := decide (a.hi < a.lo) || decide (a.out < a.in_)
/-- A place is in one of the boxes at a tick. -/
def withinB (l : List Bx) (x y lev t : Int) : Bool := l.any fun s => hasB s x y lev t
/-- Each of these boxes has nothing, or is in one of those. -/
def smallB (m l : List Bx) : Bool := m.all fun a => noneB a || l.any fun b => coverB b a

theorem cover_point (s : Bx) (x y lev t : Int) : coverB s ⟨x, y, lev, lev, t, t⟩ = hasB s x y lev t := by
  unfold coverB hasB inB
  rw [Bool.eq_iff_iff]
  simp
  omega

/-- The cells of a list of boxes lie in block b from offset o on, six each. -/
structure BoxesAt (w : World) (a : Option Addr) (b o : Nat) (l : List Bx) : Prop where
  here : l ≠ [] → a = some ⟨b, o, none⟩
  lt : l ≠ [] → b < w.heap.size
  cell : ∀ (i : Nat) (s : Bx), l[i]? = some s → w.rangeAt b (o + i * 6) s.cells

theorem BoxesAt.below {w w' : World} {a : Option Addr} {b o B : Nat} {l : List Bx} (h : BoxesAt w a b o l) (hb : Below B w w') (hB : l ≠ [] → b < B) : BoxesAt w' a b o l where
  here := h.here
  lt hl := Nat.lt_of_lt_of_le (h.lt hl) hb.size
  cell i s hi j v hv := by
    have hne : l ≠ [] := by intro e; subst e; simp at hi
    rw [hb.cell (p := ⟨b, o + i * 6 + j, none⟩) (hB hne)]
    exact h.cell i s hi j v hv

/-- The six cells of the i-th box, as a walk asks for them. -/
theorem BoxesAt.six {w : World} {a : Option Addr} {b o : Nat} {l : List Bx} (h : BoxesAt w a b o l) {i : Nat} {s : Bx} (hi : l[i]? = some s) :
    w.cell? ⟨b, o + i * 6, none⟩ = some (.int .i64 s.x) ∧ w.cell? ⟨b, o + i * 6 + 1, none⟩ = some (.int .i64 s.y) ∧ w.cell? ⟨b, o + i * 6 + 2, none⟩ = some (.int .i64 s.lo) ∧ w.cell? ⟨b, o + i * 6 + 3, none⟩ = some (.int .i64 s.hi) ∧
    w.cell? ⟨b, o + i * 6 + 4, none⟩ = some (.int .i64 s.in_) ∧ w.cell? ⟨b, o + i * 6 + 5, none⟩ = some (.int .i64 s.out) := by
  have hr := h.cell i s hi
  exact ⟨hr 0 _ rfl, hr 1 _ rfl, hr 2 _ rfl, hr 3 _ rfl, hr 4 _ rfl, hr 5 _ rfl⟩

theorem BoxesAt.alloc {w : World} {a : Option Addr} {b o : Nat} {l : List Bx} (h : BoxesAt w a b o l) (ob : Obj) : BoxesAt (w.alloc ob) a b o l where
  here := h.here
  lt hl := by have := h.lt hl; simp; omega
  cell i s hi := World.rangeAt_alloc (h.cell i s hi) ob

theorem any_take {α : Type} (l : List α) (f : α → Bool) {k : Nat} {s : α} (h : l[k]? = some s) : (l.take (k + 1)).any f = ((l.take k).any f || f s) := by
  rw [List.take_add_one, h]; simp
theorem all_take {α : Type} (l : List α) (f : α → Bool) {k : Nat} {s : α} (h : l[k]? = some s) : (l.take (k + 1)).all f = ((l.take k).all f && f s) := by
  rw [List.take_add_one, h]; simp
theorem any_hit {α : Type} {l : List α} {f : α → Bool} {k : Nat} {s : α} (h : l[k]? = some s) (hf : f s = true) : l.any f = true :=
  List.any_eq_true.2 ⟨s, List.mem_of_getElem? h, hf⟩
theorem all_miss {α : Type} {l : List α} {f : α → Bool} {k : Nat} {s : α} (h : l[k]? = some s) (hf : f s = false) : l.all f = false := by
  cases e : l.all f with
  | false => rfl
  | true => have := List.all_eq_true.1 e s (List.mem_of_getElem? h); rw [hf] at this; cases this
/-- One of these has all of it, or it has nothing. -/
def foundB (m : List Bx) (a : Bx) : Bool := noneB a || m.any fun b => coverB b a
end Go.Proofs.YtgjleeamhkolhaaGreatDoor
