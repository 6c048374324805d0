/- Joined texts: MayData, BoxData, Grp, TubeL, RsMath, TightMath, TubeI, BoxOwn, TopMath, SnDraw, OthD, Oth0, Oth1, Oth2. -/
import Derived.Maps.OwnRows
import Derived.Maps.AppendAt
import Derived.Deep.RegionHeld3
import Derived.Deep.DeepCutAuto
import Derived.Test.YtijcdikekgmfoaaGreatDoorRestData
import Derived.Test.YtijcdikekgmfoaaGreatDoorSharedData
import Derived.Test.YtijcdikekgmfoaaGreatDoorData
import Derived.Test.YtijcdikekgmfoaaGreatDoorSpanMath
import Derived.Test.YtijcdikekgmfoaaGreatDoorJ04
import Derived.Test.YtijcdikekgmfoaaGreatDoorSpanSaid
import Derived.Test.YtijcdikekgmfoaaGreatDoorStepInfo
import Derived.Test.YtijcdikekgmfoaaGreatDoorBoxP
import Derived.Test.YtijcdikekgmfoaaGreatDoorOwnMore
import Derived.Test.YtijcdikekgmfoaaGreatDoorJ01
import Derived.Test.YtijcdikekgmfoaaGreatDoorJ02
namespace Go.Proofs.YtijcdikekgmfoaaGreatDoor
open Go.RowKit

/-- The span of the first tick of a path. -/
def firstOf (A : Ans) : Int × Int := spanOf A.q A.s A.fr A.b A.l 0
/-- What FlyMayTurn answers. -/
def mayB (q s fr b : Int) (l : List Stp) (q' s' fr' b' : Int) (l' : List Stp) (st nw : Int) : Bool :=
  decide (st < (sharedN q s l q' s' l' : Int)) && (seenA q s fr b l st nw).ok && ((restA q' s' fr' b' l' st (firstOf (seenA q s fr b l st nw)).1 nw).ok && (restA q' s' fr' b' l' st (firstOf (seenA q s fr b l st nw)).2 nw).ok)

theorem canA_ok {q s fr b : Int} {m : List Stp} (h : (canA q s fr b m).ok = true) : spanB q s fr b m = true ∧ canA q s fr b m = { q := q, s := s, fr := fr, b := b, l := m, ok := true } := by
  unfold canA at h ⊢
  split at h
  · rename_i hs; rw [if_pos hs]; exact ⟨hs, rfl⟩
  · simp [Ans.no] at h
/-- A path that is left is ok, and has a flight. -/
theorem seenA_ok {q s fr b : Int} {l : List Stp} {st nw : Int} (h : (seenA q s fr b l st nw).ok = true) :
    pathB (seenA q s fr b l st nw).q (seenA q s fr b l st nw).s (seenA q s fr b l st nw).fr (seenA q s fr b l st nw).b (seenA q s fr b l st nw).l = true ∧ spanB (seenA q s fr b l st nw).q (seenA q s fr b l st nw).s (seenA q s fr b l st nw).fr (seenA q s fr b l st nw).b (seenA q s fr b l st nw).l = true := by
  unfold seenA at h ⊢
  split at h
  · rename_i hc
    rw [if_pos hc]
    obtain ⟨h1, h2⟩ := canA_ok h
    rw [h2]
    obtain ⟨hin, hsb⟩ := Bool.and_eq_true_iff.1 hc
    unfold inStepB at hin
    simp only [Bool.and_eq_true, inB_iff] at hin
    obtain ⟨⟨hp, hst⟩, hnw⟩ := hin
    refine ⟨left_path hp (by omega) (span_lo hp hsb (by omega)) ?_ hnw.1 h1, h1⟩
    have := mnB_le (spanOf q s fr b l st.toNat).2 nw
    omega
  · simp [Ans.no] at h
theorem restA_path {q s fr b : Int} {l : List Stp} {st en nw : Int} (h : pathB q s fr b l = false) : (restA q s fr b l st en nw).ok = false := by
  unfold restA inStepB
  rw [h]
  rfl
theorem spans_first {q s fr b : Int} {l : List Stp} (h : spanB q s fr b l = true) : (spansL q s fr b l)[0]? = some (spanOf q s fr b l 0) := by
  unfold spansL
  rw [if_pos h, List.getElem?_map, List.getElem?_range (by omega)]
  rfl
end Go.Proofs.YtijcdikekgmfoaaGreatDoor

namespace Go.Proofs.YtijcdikekgmfoaaGreatDoor
open Go.RowKit

/-- A box, as numbers. -/
structure Bx where
  x : Int
  y : Int
  lo : Int
  hi : Int
  in_ : Int
  out : Int

/-- Its cells. -/
abbrev Bx.cells (s : Bx) : List Value := [.int .i64 s.x, .int .i64 s.y, .int .i64 s.lo, .int .i64 s.hi, .int .i64 s.in_, .int .i64 s.out]
/-- The box of zeros. -/
def Bx.zero : Bx := ⟨0, 0, 0, 0, 0, 0⟩
theorem Bx.one (s : Bx) : (#[Value.int .i64 s.x, .int .i64 s.y, .int .i64 s.lo, .int .i64 s.hi, .int .i64 s.in_, .int .i64 s.out].all (·.oneCell')) = true := by
  simp [Value.oneCell']

/-- A box has a place at a tick. -/
def hasB (s : Bx) (x y l t : Int) : Bool := (s.x == x) && (s.y == y) && inB l s.lo s.hi && inB t s.in_ s.out
/-- A box has all of another one. -/
def coverB (b a : Bx) : Bool := (a.x == b.x) && (a.y == b.y) && decide (b.lo ≤ a.lo) && decide (a.hi ≤ b.hi) && decide (b.in_ ≤ a.in_) && decide (a.out ≤ b.out)
/-- A box has nothing. -/
def noneB (a : Bx) : Bool := decide (a.hi < a.lo) || decide (a.out < a.in_)
/-- A place is in one of the boxes at a tick. -/
def withinB (l : List Bx) (x y lev t : Int) : Bool := l.any fun s => hasB s x y lev t
/-- Each of these boxes has nothing, or is in one of those. -/
def smallB (m l : List Bx) : Bool := m.all fun a => noneB a || l.any fun b => coverB b a

theorem cover_point (s : Bx) (x y lev t : Int) : coverB s ⟨x, y, lev, lev, t, t⟩ = hasB s x y lev t := by
  unfold coverB hasB inB
  rw [Bool.eq_iff_iff]
  simp
  omega

/-- The cells of a list of boxes lie in block b from offset o on, six each. -/
structure BoxesAt (w : World) (a : Option Addr) (b o : Nat) (l : List Bx) : Prop where
  here : l ≠ [] → a = some ⟨b, o, none⟩
  lt : l ≠ [] → b < w.heap.size
  cell : ∀ (i : Nat) (s : Bx), l[i]? = some s → w.rangeAt b (o + i * 6) s.cells

theorem BoxesAt.below {w w' : World} {a : Option Addr} {b o B : Nat} {l : List Bx} (h : BoxesAt w a b o l) (hb : Below B w w') (hB : l ≠ [] → b < B) : BoxesAt w' a b o l where
  here := h.here
  lt hl := Nat.lt_of_lt_of_le (h.lt hl) hb.size
  cell i s hi j v hv := by
    have hne : l ≠ [] := by intro e; subst e; simp at hi
    rw [hb.cell (p := ⟨b, o + i * 6 + j, none⟩) (hB hne)]
    exact h.cell i s hi j v hv

/-- The six cells of the i-th box, as a walk asks for them. -/
theorem BoxesAt.six {w : World} {a : Option Addr} {b o : Nat} {l : List Bx} (h : BoxesAt w a b o l) {i : Nat} {s : Bx} (hi : l[i]? = some s) :
    w.cell? ⟨b, o + i * 6, none⟩ = some (.int .i64 s.x) ∧ w.cell? ⟨b, o + i * 6 + 1, none⟩ = some (.int .i64 s.y) ∧ w.cell? ⟨b, o + i * 6 + 2, none⟩ = some (.int .i64 s.lo) ∧ w.cell? ⟨b, o + i * 6 + 3, none⟩ = some (.int .i64 s.hi) ∧
    w.cell? ⟨b, o + i * 6 + 4, none⟩ = some (.int .i64 s.in_) ∧ w.cell? ⟨b, o + i * 6 + 5, none⟩ = some (.int .i64 s.out) := by
  have hr := h.cell i s hi
  exact ⟨hr 0 _ rfl, hr 1 _ rfl, hr 2 _ rfl, hr 3 _ rfl, hr 4 _ rfl, hr 5 _ rfl⟩

theorem BoxesAt.alloc {w : World} {a : Option Addr} {b o : Nat} {l : List Bx} (h : BoxesAt w a b o l) (ob : Obj) : BoxesAt (w.alloc ob) a b o l where
  here := h.here
  lt hl := by have := h.lt hl; simp; omega
  cell i s hi := World.rangeAt_alloc (h.cell i s hi) ob

theorem any_take {α : Type} (l : List α) (f : α → Bool) {k : Nat} {s : α} (h : l[k]? = some s) : (l.take (k + 1)).any f = ((l.take k).any f || f s) := by
  rw [List.take_add_one, h]; simp
theorem all_take {α : Type} (l : List α) (f : α → Bool) {k : Nat} {s : α} (h : l[k]? = some s) : (l.take (k + 1)).all f = ((l.take k).all f && f s) := by
  rw [List.take_add_one, h]; simp
theorem any_hit {α : Type} {l : List α} {f : α → Bool} {k : Nat} {s : α} (h : l[k]? = some s) (hf : f s = true) : l.any f = true :=
  List.any_eq_true.2 ⟨s, List.mem_of_getElem? h, hf⟩
theorem all_miss {α : Type} {l : List α} {f : α → Bool} {k : Nat} {s : α} (h : l[k]? = some s) (hf : f s = false) : l.all f = false := by
  cases e : l.all f with
  | false => rfl
  | true => have := List.all_eq_true.1 e s (List.mem_of_getElem? h); rw [hf] at this; cases this
/-- One of these has all of it, or it has nothing. -/
def foundB (m : List Bx) (a : Bx) : Bool := noneB a || m.any fun b => coverB b a
end Go.Proofs.YtijcdikekgmfoaaGreatDoor

namespace Go.Proofs.YtijcdikekgmfoaaGreatDoor
open Go.RowKit Go.ChangeMaps

/-- A cell as a key. -/
abbrev keyV (i j : Int) : Value := .agg #[.int .i64 i, .int .i64 j]

theorem keyV_inj {i j i' j' : Int} (h : keyV i j = keyV i' j') : i = i' ∧ j = j' := by simpa using h

/-- What is asked of the key's type. -/
structure CellKey (P : Program) (k : TypeId) : Prop where
  check : ∀ (w : World) (em : Bool) (i j : Int), (Instr.checkKey em 10000 k (keyV i j)).run P w = .ok () w
  equal : ∀ (w : World) (i j i' j' : Int), (Op.equal k (keyV i j) (keyV i' j')).run P w = .ok (decide (i = i' ∧ j = j')) w
  stays : ∀ (w : World) (i j : Int), (Instr.keyThatStays (keyV i j) (keyV i j)).run P w = .ok (keyV i j) w
  plain : ∃ fs, P.underlying k = some (.struct fs)

section
variable {P : Program} {k : TypeId}

theorem CellKey.ask (K : CellKey P k) (w : World) (i j : Int) : ∀ (es : List MapEntry) (m : Nat), (∀ e ∈ es, ∃ a b, e.key = keyV a b) →
    ((Instr.findAsking k (keyV i j) es m).run P w = .ok none w ∧ ∀ e ∈ es, e.key ≠ keyV i j) ∨
      ∃ n e, (Instr.findAsking k (keyV i j) es m).run P w = .ok (some (m + n, e.val)) w ∧ es[n]? = some e ∧ e.key = keyV i j
  | [], _, _ => Or.inl ⟨by simp [Instr.findAsking], by simp⟩
  | e :: es, m, hall => by
    obtain ⟨a, b, he⟩ := hall e (by simp)
    have hr := K.equal w i j a b
    by_cases h : i = a ∧ j = b
    · obtain ⟨rfl, rfl⟩ := h
      rw [decide_eq_true ⟨rfl, rfl⟩] at hr
      exact Or.inr ⟨0, e, by simp [Instr.findAsking, he, hr, Result.andThen], rfl, he⟩
    · rw [decide_eq_false h] at hr
      rcases K.ask w i j es (m + 1) (fun y hy => hall y (by simp [hy])) with ⟨h1, h2⟩ | ⟨n, e', h1, h2, h3⟩
      · refine Or.inl ⟨by simp [Instr.findAsking, he, hr, h1, Result.andThen], fun y hy => ?_⟩
        rcases List.mem_cons.1 hy with rfl | hy
        · rw [he]
          intro e1
          obtain ⟨rfl, rfl⟩ := keyV_inj e1
          exact h ⟨rfl, rfl⟩
        · exact h2 y hy
      · exact Or.inr ⟨n + 1, e', by simp [Instr.findAsking, he, hr, h1, Result.andThen, Nat.add_assoc, Nat.add_comm 1 n], by simpa using h2, h3⟩

theorem CellKey.find (K : CellKey P k) (w : World) (i j : Int) (es : List MapEntry) (hall : ∀ e ∈ es, ∃ a b, e.key = keyV a b) :
    ((Instr.findKey k (keyV i j) es).run P w = .ok none w ∧ ∀ e ∈ es, e.key ≠ keyV i j) ∨
      ∃ n e, (Instr.findKey k (keyV i j) es).run P w = .ok (some (n, e.val)) w ∧ es[n]? = some e ∧ e.key = keyV i j := by
  obtain ⟨fs, hk⟩ := K.plain
  cases es with
  | nil => exact Or.inl ⟨by simp [Instr.findKey, run_underlying hk, Instr.findNow, Result.andThen], by simp⟩
  | cons e es =>
    have hn : (Instr.findKey k (keyV i j) (e :: es)).run P w = (Instr.findAsking k (keyV i j) (e :: es)).run P w := by
      simp [Instr.findKey, run_underlying hk, Instr.findNow, Instr.sameNow, Result.andThen]
    rw [hn]
    rcases K.ask w i j (e :: es) 0 hall with h | ⟨n, e', h1, h2, h3⟩
    · exact Or.inl h
    · exact Or.inr ⟨n, e', by simpa using h1, h2, h3⟩
end

/-- Those of a cell. -/
def atC (l : List Bx) (i j : Int) : List Bx := l.filter fun s => (s.x == i) && (s.y == j)
/-- Their cells, one behind another. -/
def rowC (l : List Bx) : List Value := l.flatMap Bx.cells

theorem rowC_append (l m : List Bx) : rowC (l ++ m) = rowC l ++ rowC m := by simp [rowC]
theorem rowC_one (s : Bx) : rowC [s] = s.cells := by simp [rowC]
theorem atC_append (l : List Bx) (s : Bx) (i j : Int) : atC (l ++ [s]) i j = if s.x = i ∧ s.y = j then atC l i j ++ [s] else atC l i j := by
  unfold atC
  rw [List.filter_append]
  by_cases h : s.x = i ∧ s.y = j
  · rw [if_pos h]; simp [h.1, h.2]
  · rw [if_neg h]
    have : ((s.x == i) && (s.y == j)) = false := by
      rw [Bool.eq_false_iff]; intro e; simp at e; exact h e
    simp [this]
theorem atC_nil_of {l : List Bx} {i j : Int} (h : ∀ s ∈ l, ¬(s.x = i ∧ s.y = j)) : atC l i j = [] := by
  unfold atC
  rw [List.filter_eq_nil_iff]
  intro s hs
  simpa using h s hs
theorem rowC_length (l : List Bx) : (rowC l).length = l.length * 6 := by
  induction l with
  | nil => rfl
  | cons s r ih => simp [rowC] at ih ⊢; rw [ih]; omega
theorem rowC_get : ∀ (l : List Bx) (i : Nat) (s : Bx), l[i]? = some s → ∀ (j : Nat) (v : Value), s.cells[j]? = some v → (rowC l)[i * 6 + j]? = some v
  | [], i, s, h, _, _, _ => by simp at h
  | t :: r, 0, s, h, j, v, hv => by
    obtain rfl : t = s := by simpa using h
    have hj : j < 6 := by have := (List.getElem?_eq_some_iff.1 hv).1; simpa using this
    show (t.cells ++ rowC r)[0 * 6 + j]? = some v
    rw [List.getElem?_append_left (by simp; omega)]
    simpa using hv
  | t :: r, i + 1, s, h, j, v, hv => by
    show (t.cells ++ rowC r)[(i + 1) * 6 + j]? = some v
    rw [List.getElem?_append_right (by simp; omega)]
    have := rowC_get r i s (by simpa using h) j v hv
    rw [← this]
    congr 1
    simp
    omega

/-- The entries of such a map: by cells, the boxes of l; each cell's lie in a row of their own, from base on. -/
structure GEs (w : World) (base : Nat) (e : TypeId) (l : List Bx) (es : Array MapEntry) (clock : Nat) : Prop where
  row : ∀ x ∈ es.toList, ∃ i j, x.key = keyV i j ∧ w.ownsRow base e 6 x.val (atC l i j).length (rowC (atC l i j))
  all : ∀ s ∈ l, ∃ x ∈ es.toList, x.key = keyV s.x s.y
  keys : (es.toList.map (·.key)).Nodup
  apart : ∀ x ∈ es.toList, ∀ y ∈ es.toList, x.key ≠ y.key → x.val.ownBlock = none ∨ x.val.ownBlock ≠ y.val.ownBlock
  born : (es.toList.map (·.born)).Nodup
  old : ∀ x ∈ es.toList, x.born < clock

/-- Block b is a map, by cells, of the boxes of l. -/
def Groups (w : World) (b base : Nat) (e : TypeId) (l : List Bx) : Prop :=
  b < base ∧ ∃ es clock, w.heap[b]? = some (.map es clock) ∧ GEs w base e l es clock

theorem Groups_made (w : World) (e : TypeId) : Groups (w.alloc (.map #[] 0)) w.heap.size (w.heap.size + 1) e [] :=
  ⟨Nat.lt_succ_self _, #[], 0, (MapKept.heap_alloc w _).1, by simp, by simp, by simp, by simp, by simp, by simp⟩

theorem Groups.lt {w : World} {b base : Nat} {e : TypeId} {l : List Bx} (h : Groups w b base e l) : b < w.heap.size := by
  obtain ⟨_, es, clock, hb, _⟩ := h
  exact (Array.getElem?_eq_some_iff.1 hb).1

theorem GEs.kept {w w' : World} {base : Nat} {e : TypeId} {l : List Bx} {es : Array MapEntry} {clock : Nat} {row : Option Nat} (h : GEs w base e l es clock) (hg : w.grownBy w' row)
    (hr : ∀ x ∈ es.toList, x.val.ownBlock = none ∨ x.val.ownBlock ≠ row) : GEs w' base e l es clock :=
  { h with row := fun x hx => by obtain ⟨i, j, hk, ho⟩ := h.row x hx; exact ⟨i, j, hk, ho.kept hg (hr x hx)⟩ }

theorem owns_not {w : World} {base : Nat} {e : TypeId} {n b size : Nat} {v : Value} {xs : List Value} (h : w.ownsRow base e size v n xs) (hb : b < base) : v.ownBlock ≠ some b := fun e1 => by
  have := (h.lt b e1).1
  omega

theorem GEs.keptMap {w w' : World} {b base : Nat} {e : TypeId} {l : List Bx} {es : Array MapEntry} {clock : Nat} (h : GEs w base e l es clock) (hg : w.grownBy w' (some b)) (hb : b < base) : GEs w' base e l es clock :=
  h.kept hg fun x hx => by obtain ⟨i, j, _, ho⟩ := h.row x hx; exact Or.inr (owns_not ho hb)

theorem Groups.below {w w' : World} {b base : Nat} {e : TypeId} {l : List Bx} (h : Groups w b base e l) (hb : Below w.heap.size w w') : Groups w' b base e l := by
  have hlt := h.lt
  obtain ⟨hbb, es, clock, hb0, hE⟩ := h
  have hblk : ∀ i, i < w.heap.size → w'.heap[i]? = w.heap[i]? := fun i hi => hb.block i hi
  refine ⟨hbb, es, clock, (hblk b hlt).trans hb0, { hE with row := fun x hx => ?_ }⟩
  obtain ⟨i, j, hk, ho⟩ := hE.row x hx
  refine ⟨i, j, hk, ho.1, ?_⟩
  rcases ho.2 with h0 | ⟨g, cap, cur, e1, e2, e3, e4⟩
  · exact Or.inl h0
  · exact Or.inr ⟨g, cap, cur, e1, e2, (hblk g (Array.getElem?_eq_some_iff.1 e3).1).trans e3, e4⟩

/-- The way back: whatever was done to v's own row and to new blocks alone, a store at that entry of a slice that owns one box more, in v's row or in a new block, leaves a map of one box more. -/
def BackTo (w : World) (P : Program) (t : TypeId) (b base : Nat) (e : TypeId) (l : List Bx) (i j : Int) (v : Value) (c : Nat) : Prop :=
  ∀ (w1 : World) (v' : Value) (s : Bx), s.x = i → s.y = j → w.grownBy w1 v.ownBlock → w1.ownsRow base e 6 v' ((atC l i j).length + 1) (rowC (atC l i j) ++ s.cells) → (v'.ownBlock = v.ownBlock ∨ ∃ g, v'.ownBlock = some g ∧ w.heap.size ≤ g) →
    ∃ w2, (Instr.entryStore t (.map (some b)) (.int .i64 c) v').run P w1 = .ok () w2 ∧ Groups w2 b base e (l ++ [s]) ∧ w1.grownBy w2 (some b)

theorem setBlock_grown {w : World} {b : Nat} {es : Array MapEntry} {clock : Nat} (hb : w.heap[b]? = some (.map es clock)) (o : Obj) : w.grownBy (setBlock w b o) (some b) :=
  ⟨rfl, rfl, rfl, by simp [setBlock], fun i _ hi => heap_setBlock_other hb _ (fun e1 => hi (by rw [e1]))⟩

section
variable {P : Program} {k : TypeId} {w : World} {b base : Nat} {e : TypeId} {l : List Bx}

theorem GEs.back {t : TypeId} {es : Array MapEntry} {clock : Nat} (hbb : b < base) (hb : w.heap[b]? = some (.map es clock)) (hE : GEs w base e l es clock) (i j : Int) (n : Nat) (x0 : MapEntry) (f2 : es.toList[n]? = some x0) (f3 : x0.key = keyV i j) :
    BackTo w P t b base e l i j x0.val x0.born := by
  intro w1 v' s hsx hsy hg hown' hloc
  have hblt : b < w.heap.size := (Array.getElem?_eq_some_iff.1 hb).1
  have hm0 := List.mem_of_getElem? f2
  have hvb : x0.val.ownBlock ≠ some b := by obtain ⟨_, _, _, ho⟩ := hE.row x0 hm0; exact owns_not ho hbb
  have hv : ∀ x ∈ es.toList, x.key ≠ keyV i j → x.val.ownBlock = none ∨ x.val.ownBlock ≠ x0.val.ownBlock := fun x hx hne => hE.apart x hx x0 hm0 (by rw [f3]; exact hne)
  have hb1 : w1.heap[b]? = some (.map es clock) := (hg.block b hblt (fun e1 => hvb e1.symm)).trans hb
  have hself : atC (l ++ [s]) i j = atC l i j ++ [s] := by rw [atC_append, if_pos ⟨hsx, hsy⟩]
  have hnew : ∀ w2 : World, w2.ownsRow base e 6 v' ((atC l i j).length + 1) (rowC (atC l i j) ++ s.cells) → w2.ownsRow base e 6 v' (atC (l ++ [s]) i j).length (rowC (atC (l ++ [s]) i j)) := fun w2 h => by
    rw [hself, rowC_append, rowC_one]; simpa using h
  have old : ∀ x ∈ es.toList, x.key ≠ keyV i j → ∃ a c, x.key = keyV a c ∧ w1.ownsRow base e 6 x.val (atC (l ++ [s]) a c).length (rowC (atC (l ++ [s]) a c)) := fun x hx hne => by
    obtain ⟨a, c, hk, ho⟩ := hE.row x hx
    refine ⟨a, c, hk, ?_⟩
    rw [atC_append, if_neg (by intro e1; rw [hk, ← hsx, ← hsy, e1.1, e1.2] at hne; exact hne rfl)]
    exact ho.kept hg (hv x hx hne)
  have apart : ∀ x ∈ es.toList, x.key ≠ keyV i j → x.val.ownBlock = none ∨ x.val.ownBlock ≠ v'.ownBlock := fun x hx hne => by
    rcases hloc with e1 | ⟨g, e1, e2⟩
    · rw [e1]; exact hv x hx hne
    · cases hx' : x.val.ownBlock with
      | none => exact Or.inl rfl
      | some gx =>
        obtain ⟨a, c, _, ho⟩ := hE.row x hx
        have := (ho.lt gx hx').2
        refine Or.inr (fun e3 => ?_)
        rw [e1] at e3
        cases e3
        omega
  have apart' : ∀ x ∈ es.toList, x.key ≠ keyV i j → v'.ownBlock = none ∨ v'.ownBlock ≠ x.val.ownBlock := fun x hx hne => by
    rcases apart x hx hne with h | h
    · rw [h]; cases v'.ownBlock <;> simp
    · exact Or.inr (fun e1 => h e1.symm)
  have stay : ∀ (o : Obj) (u : Value) (n : Nat) (xs : List Value), w1.ownsRow base e 6 u n xs → (setBlock w1 b o).ownsRow base e 6 u n xs := fun o u n xs ho => ho.kept (setBlock_grown hb1 o) (Or.inr (owns_not ho hbb))
  have hj : es[n]? = some x0 := by simpa using f2
  have hlist : (es.modify n (fun e' => { e' with val := v' })).toList = es.toList.set n { x0 with val := v' } := by rw [Array.toList_modify, modify_eq_set _ _ _ _ f2]
  have keep : ∀ {β : Type} (f : MapEntry → β), f { x0 with val := v' } = f x0 → (es.toList.set n { x0 with val := v' }).map f = es.toList.map f := fun f hf => by
    rw [List.map_set, hf]
    apply List.ext_getElem?
    intro m
    by_cases e : n = m
    · subst e
      rw [List.getElem?_set_self (by simpa using (List.getElem?_eq_some_iff.1 f2).1)]
      simp [hj]
    · rw [List.getElem?_set_ne e]
  have hkeyl := keep (·.key) rfl
  have hbornl := keep (·.born) rfl
  have who : ∀ x ∈ es.toList.set n { x0 with val := v' }, x = { x0 with val := v' } ∨ (x ∈ es.toList ∧ x.key ≠ keyV i j) := by
    intro x hx
    obtain ⟨m, hm⟩ := List.mem_iff_getElem?.1 hx
    by_cases e : n = m
    · subst e
      rw [List.getElem?_set_self (List.getElem?_eq_some_iff.1 f2).1] at hm
      exact Or.inl (by simpa using hm.symm)
    · rw [List.getElem?_set_ne e] at hm
      refine Or.inr ⟨List.mem_of_getElem? hm, fun e1 => e ?_⟩
      have a1 : (es.toList.map (·.key))[n]? = some (keyV i j) := by rw [List.getElem?_map, f2]; simp [f3]
      have a2 : (es.toList.map (·.key))[m]? = some (keyV i j) := by rw [List.getElem?_map, hm]; simp [e1]
      exact (List.getElem?_inj (by have := (List.getElem?_eq_some_iff.1 f2).1; simpa using this) hE.keys).1 (a1.trans a2.symm)
  have hidx : es.findIdx? (fun e' => (e'.born : Int) == (x0.born : Int)) = some n := by
    have hnl : n < es.size := by simpa using (List.getElem?_eq_some_iff.1 f2).1
    rw [Array.findIdx?_eq_some_iff_getElem]
    refine ⟨hnl, by rw [Array.getElem?_eq_getElem hnl] at hj; cases hj; simp, fun m hm => ?_⟩
    have hml : m < es.size := by omega
    intro e0
    have e1 : es[m].born = x0.born := Int.ofNat.inj (eq_of_beq e0)
    have a1 : (es.toList.map (·.born))[n]? = some x0.born := by rw [List.getElem?_map, f2]; rfl
    have a2 : (es.toList.map (·.born))[m]? = some x0.born := by rw [List.getElem?_map]; simp [hml]; exact e1
    have := (List.getElem?_inj (by simpa using hml) hE.born).1 (a2.trans a1.symm)
    omega
  refine ⟨setBlock w1 b (.map (es.modify n (fun e' => { e' with val := v' })) clock), ?_, ?_, setBlock_grown hb1 _⟩
  · simp [Instr.entryStore, MapKept.run_getObj_map hb1, asInt, asIntOf, hidx, MapKept.run_setObj_map _ hb1, Result.andThen, setBlock]
  · refine ⟨hbb, _, _, heap_setBlock_same hb1 _, ?_, ?_, ?_, ?_, ?_, ?_⟩
    · intro x hx
      rw [hlist] at hx
      rcases who x hx with rfl | ⟨hx, hne⟩
      · exact ⟨i, j, f3, stay _ _ _ _ (hnew _ hown')⟩
      · obtain ⟨a, c, hk, ho⟩ := old x hx hne
        exact ⟨a, c, hk, stay _ _ _ _ ho⟩
    · have has : ∀ a, a ∈ es.toList.map (·.key) → ∃ x ∈ (es.modify n (fun e' => { e' with val := v' })).toList, x.key = a := fun a ha => by
        rw [← hkeyl] at ha
        obtain ⟨x, hx, rfl⟩ := List.mem_map.1 ha
        exact ⟨x, by rw [hlist]; exact hx, rfl⟩
      intro z hz
      simp only [List.mem_append, List.mem_singleton] at hz
      rcases hz with hz | rfl
      · obtain ⟨x, hx, hk⟩ := hE.all z hz
        exact has _ (List.mem_map.2 ⟨x, hx, hk⟩)
      · rw [hsx, hsy]
        exact has _ (List.mem_map.2 ⟨x0, List.mem_of_getElem? f2, f3⟩)
    · rw [hlist, hkeyl]; exact hE.keys
    · intro x hx y hy hne
      rw [hlist] at hx hy
      rcases who x hx with rfl | ⟨hx, hnx⟩
      · rcases who y hy with rfl | ⟨hy, hny⟩
        · exact absurd rfl hne
        · exact apart' y hy hny
      · rcases who y hy with rfl | ⟨hy, hny⟩
        · exact apart x hx hnx
        · exact hE.apart x hx y hy hne
    · rw [hlist, hbornl]; exact hE.born
    · intro x hx
      rw [hlist] at hx
      rcases who x hx with rfl | ⟨hx, _⟩
      · exact hE.old x0 hm0
      · exact hE.old x hx

/-- The entry of a cell, made where there is none, with the boxes of the cell, and the way back. -/
theorem Groups.entry {t E : TypeId} (K : CellKey P k) (ht : P.underlying t = some (.map k E)) (hz : (zeroValue E).run P w = .ok (.slice none 0 0) w) (h : Groups w b base e l) (i j : Int) :
    ∃ v c w1, (Instr.mapEntry t (.map (some b)) (keyV i j)).run P w = .ok (.tuple #[v, .int .i64 (c : Nat)]) w1 ∧ w1.ownsRow base e 6 v (atC l i j).length (rowC (atC l i j)) ∧ w.grownBy w1 (some b) ∧ w1.heap.size = w.heap.size ∧ BackTo w1 P t b base e l i j v c := by
  obtain ⟨hbb, es, clock, hb, hE⟩ := h
  have hkeys : ∀ x ∈ es.toList, ∃ a c, x.key = keyV a c := fun x hx => by obtain ⟨a, c, hk, _⟩ := hE.row x hx; exact ⟨a, c, hk⟩
  rcases K.find w i j es.toList hkeys with ⟨f1, f2⟩ | ⟨n, x0, f1, f2, f3⟩
  · have hnil : atC l i j = [] := atC_nil_of (fun s hs e1 => by obtain ⟨x, hx, hk⟩ := hE.all s hs; rw [e1.1, e1.2] at hk; exact f2 x hx hk)
    have hE1 : GEs (setBlock w b (.map (es.push ⟨keyV i j, .slice none 0 0, clock⟩) (clock + 1))) base e l (es.push ⟨keyV i j, .slice none 0 0, clock⟩) (clock + 1) := by
      have hk := hE.keptMap (setBlock_grown hb (.map (es.push ⟨keyV i j, .slice none 0 0, clock⟩) (clock + 1))) hbb
      refine ⟨?_, ?_, ?_, ?_, ?_, ?_⟩
      · intro x hx
        simp only [Array.toList_push, List.mem_append, List.mem_singleton] at hx
        rcases hx with hx | rfl
        · exact hk.row x hx
        · exact ⟨i, j, rfl, by rw [hnil]; exact World.ownsRow_nil _ _ _ _⟩
      · intro z hz
        obtain ⟨x, hx, hk⟩ := hE.all z hz
        exact ⟨x, by simp at hx ⊢; exact Or.inl hx, hk⟩
      · simp only [Array.toList_push, List.map_append, List.map_cons, List.map_nil]
        rw [List.nodup_append]
        refine ⟨hE.keys, by simp, ?_⟩
        intro a ha c hc
        simp only [List.mem_singleton] at hc
        subst hc
        obtain ⟨x, hx, rfl⟩ := List.mem_map.1 ha
        exact f2 x hx
      · intro x hx y hy hne
        simp only [Array.toList_push, List.mem_append, List.mem_singleton] at hx hy
        rcases hx with hx | rfl
        · rcases hy with hy | rfl
          · exact hE.apart x hx y hy hne
          · cases x.val.ownBlock <;> simp [Value.ownBlock]
        · exact Or.inl rfl
      · simp only [Array.toList_push, List.map_append, List.map_cons, List.map_nil]
        rw [List.nodup_append]
        refine ⟨hE.born, by simp, ?_⟩
        intro a ha c hc
        simp only [List.mem_singleton] at hc
        subst hc
        obtain ⟨x, hx, rfl⟩ := List.mem_map.1 ha
        exact Nat.ne_of_lt (hE.old x hx)
      · intro x hx
        simp only [Array.toList_push, List.mem_append, List.mem_singleton] at hx
        rcases hx with hx | rfl
        · have := hE.old x hx; omega
        · exact Nat.lt_succ_self _
    refine ⟨.slice none 0 0, clock, _, ?_, ?_, setBlock_grown hb (.map (es.push ⟨keyV i j, .slice none 0 0, clock⟩) (clock + 1)), by simp [setBlock], ?_⟩
    · simp [Instr.mapEntry, run_underlying ht, MapKept.run_getObj_map hb, K.check w false i j, f1, hz, MapKept.run_setObj_map _ hb, Result.andThen, setBlock, goInt]
    · rw [hnil]; exact World.ownsRow_nil _ _ _ _
    · exact hE1.back hbb (heap_setBlock_same hb _) i j es.size ⟨keyV i j, .slice none 0 0, clock⟩ (by simp) rfl
  · have hj : es[n]? = some x0 := by simpa using f2
    have hm0 := List.mem_of_getElem? f2
    have hsame : es.modify n (fun e' => { e' with key := keyV i j }) = es := by
      apply Array.toList_inj.1
      rw [Array.toList_modify, modify_eq_set _ _ _ _ f2]
      have e1 : ({ x0 with key := keyV i j } : MapEntry) = x0 := by rw [← f3]
      rw [e1]
      apply List.ext_getElem?
      intro m
      by_cases e : n = m
      · subst e
        rw [List.getElem?_set_self (List.getElem?_eq_some_iff.1 f2).1, f2]
      · rw [List.getElem?_set_ne e]
    have hE1 := hE.keptMap (setBlock_grown hb (.map es clock)) hbb
    refine ⟨x0.val, x0.born, setBlock w b (.map es clock), ?_, ?_, setBlock_grown hb _, by simp [setBlock], hE1.back hbb (heap_setBlock_same hb _) i j n x0 f2 f3⟩
    · simp [Instr.mapEntry, run_underlying ht, MapKept.run_getObj_map hb, K.check w false i j, f1, hj, f3, K.stays w i j, hsame, MapKept.run_setObj_map _ hb, Result.andThen, setBlock, goInt]
    · obtain ⟨a, c, hk, ho⟩ := hE1.row x0 hm0
      obtain ⟨rfl, rfl⟩ := keyV_inj (hk.symm.trans f3)
      exact ho

/-- The look-up hands over the boxes of the cell. -/
theorem Groups.look {t E : TypeId} (K : CellKey P k) (ht : P.underlying t = some (.map k E)) (hz : (zeroValue E).run P w = .ok (.slice none 0 0) w) (h : Groups w b base e l) (i j : Int) :
    ∃ v, (Instr.lookup t (.map (some b)) (keyV i j) false).run P w = .ok v w ∧ w.ownsRow base e 6 v (atC l i j).length (rowC (atC l i j)) := by
  obtain ⟨hbb, es, clock, hb, hE⟩ := h
  have hkeys : ∀ x ∈ es.toList, ∃ a c, x.key = keyV a c := fun x hx => by obtain ⟨a, c, hk, _⟩ := hE.row x hx; exact ⟨a, c, hk⟩
  rcases K.find w i j es.toList hkeys with ⟨f1, f2⟩ | ⟨n, x0, f1, f2, f3⟩
  · refine ⟨.slice none 0 0, ?_, ?_⟩
    · simp [Instr.lookup, run_underlying ht, MapKept.run_getObj_map hb, K.check w _ i j, f1, hz, Result.andThen]
    · rw [atC_nil_of (fun s hs e1 => by obtain ⟨x, hx, hk⟩ := hE.all s hs; rw [e1.1, e1.2] at hk; exact f2 x hx hk)]
      exact World.ownsRow_nil _ _ _ _
  · obtain ⟨a, c, hk, ho⟩ := hE.row x0 (List.mem_of_getElem? f2)
    obtain ⟨rfl, rfl⟩ := keyV_inj (hk.symm.trans f3)
    refine ⟨x0.val, ?_, ho⟩
    simp [Instr.lookup, run_underlying ht, MapKept.run_getObj_map hb, K.check w _ a c, f1, Result.andThen]
end

/-- The look-up at the operation. -/
theorem wpList_lookup_cells {P : Program} (w : World) {ops : Array Oper} {rest : List Oper} {o : Oper} {a : Act} {Q : Exit → Act → World → Prop}
    (hg : o.guard = none) (m x : Operand) (t : TypeId) (hop : o.op = Op.lookup t m x false)
    (k E e : TypeId) (K : CellKey P k) (ht : P.underlying t = some (.map k E)) (hz : (zeroValue E).run P w = .ok (.slice none 0 0) w) (base b : Nat) (l : List Bx)
    (hm : a.eval m = .map (some b)) (hown : Groups w b base e l) (i j : Int) (hx : a.eval x = keyV i j)
    (hK : ∀ v, w.ownsRow base e 6 v (atC l i j).length (rowC (atC l i j)) → wpList P ops Q rest (a.put o.dst v) w) :
    wpList P ops Q (o :: rest) a w := by
  refine wpList_plain hg fun K' hK' => ?_
  obtain ⟨v, hrun, ho⟩ := hown.look K ht hz i j
  unfold Oper.wp
  simp [execOp, hop, hm, hx, hrun, Result.andThen]
  exact hK' _ _ (hK v ho)

/-- An entry at the operation. -/
theorem wpList_mapEntry_cells {P : Program} (w : World) {ops : Array Oper} {rest : List Oper} {o : Oper} {a : Act} {Q : Exit → Act → World → Prop}
    (hg : o.guard = none) (m x : Operand) (t : TypeId) (hop : o.op = Op.mapEntry t m x)
    (k E e : TypeId) (K : CellKey P k) (ht : P.underlying t = some (.map k E)) (hz : (zeroValue E).run P w = .ok (.slice none 0 0) w) (base b : Nat) (l : List Bx)
    (hm : a.eval m = .map (some b)) (hown : Groups w b base e l) (i j : Int) (hx : a.eval x = keyV i j)
    (hK : ∀ (v : Value) (c : Nat) (w1 : World), w1.ownsRow base e 6 v (atC l i j).length (rowC (atC l i j)) → w.grownBy w1 (some b) → w1.heap.size = w.heap.size → BackTo w1 P t b base e l i j v c → wpList P ops Q rest (a.put o.dst (.tuple #[v, .int .i64 c])) w1) :
    wpList P ops Q (o :: rest) a w := by
  refine wpList_plain hg fun K' hK' => ?_
  obtain ⟨v, c, w1, hrun, h1, h2, h3, h4⟩ := hown.entry K ht hz i j
  unfold Oper.wp
  simp [execOp, hop, hm, hx, hrun, Result.andThen]
  exact hK' _ _ (hK v c w1 h1 h2 h3 h4)

/-- The store at the operation, by the way back. -/
theorem wpList_entryStore_cells {P : Program} (w : World) {ops : Array Oper} {rest : List Oper} {o : Oper} {a : Act} {Q : Exit → Act → World → Prop}
    (hg : o.guard = none) (m x v : Operand) (t : TypeId) (hop : o.op = Op.entryStore t m x v)
    {w0 : World} {base : Nat} {e : TypeId} {b : Nat} {l : List Bx} {i j : Int} {u v' : Value} {c : Nat} (s : Bx)
    (hback : BackTo w0 P t b base e l i j u c) (hm : a.eval m = .map (some b)) (hx : a.eval x = .int .i64 c) (hv : a.eval v = v') (hsx : s.x = i) (hsy : s.y = j)
    (hgr : w0.grownBy w u.ownBlock) (hown' : w.ownsRow base e 6 v' ((atC l i j).length + 1) (rowC (atC l i j) ++ s.cells)) (hloc : v'.ownBlock = u.ownBlock ∨ ∃ g, v'.ownBlock = some g ∧ w0.heap.size ≤ g)
    (hK : ∀ w2, Groups w2 b base e (l ++ [s]) → w.grownBy w2 (some b) → wpList P ops Q rest (a.put o.dst undef) w2) :
    wpList P ops Q (o :: rest) a w := by
  refine wpList_plain hg fun K' hK' => ?_
  obtain ⟨w2, hrun, r1, r2⟩ := hback w v' s hsx hsy hgr hown' hloc
  unfold Oper.wp
  simp [execOp, hop, hm, hx, hv, hrun, Result.andThen]
  exact hK' _ _ (hK w2 r1 r2)
end Go.Proofs.YtijcdikekgmfoaaGreatDoor

namespace Go.Proofs.YtijcdikekgmfoaaGreatDoor
open Go.RowKit

/-- The box of a step. -/
def tubeAt (F : List (Int × Int)) (l : List Stp) (k : Nat) : Bx := ⟨(l.getD k .zero).x, (l.getD k .zero).y, (l.getD k .zero).lo, (l.getD k .zero).hi, (F.getD k (0, 0)).1, (F.getD (k + 1) (0, 0)).2 - 1⟩
/-- The first k boxes. -/
def tubeTo (F : List (Int × Int)) (l : List Stp) (k : Nat) : List Bx := (List.range k).map (tubeAt F l)
theorem tubeTo_length (F : List (Int × Int)) (l : List Stp) (k : Nat) : (tubeTo F l k).length = k := by simp [tubeTo]
theorem tubeTo_succ (F : List (Int × Int)) (l : List Stp) (k : Nat) : tubeTo F l (k + 1) = tubeTo F l k ++ [tubeAt F l k] := by simp [tubeTo, List.range_succ]
/-- The tube. -/
def tubeL (q s fr b : Int) (l : List Stp) : List Bx := if flyB q s fr b l then tubeTo (flyL q s fr b l) l l.length else []

theorem bwd_range {q s fr b : Int} {l : List Stp} (h : pathB q s fr b l = true) (n j : Nat) : 0 ≤ (bwdS q s fr b l n j).1 ∧ (bwdS q s fr b l n j).2 ≤ 10000 := by
  cases j with
  | zero => exact fwd_range h n
  | succ j =>
    have hf := fwd_range h (n - (j + 1))
    have h1 := mxB_le (fwdS q s fr b l (n - (j + 1))).1 ((bwdS q s fr b l n j).1 - mostB s l (n - (j + 1)))
    have h2 := mnB_le (fwdS q s fr b l (n - (j + 1))).2 ((bwdS q s fr b l n j).2 - q)
    simp only [bwdS]
    omega
/-- The spans lie within 0 .. 10000. -/
theorem fly_range (q s fr b : Int) (l : List Stp) (k : Nat) : 0 ≤ ((flyL q s fr b l).getD k (0, 0)).2 ∧ ((flyL q s fr b l).getD k (0, 0)).2 ≤ 10000 := by
  cases hp : pathB q s fr b l with
  | false => unfold flyL; rw [hp]; simp
  | true =>
    cases hs : spanB q s fr b l with
    | false => unfold flyL spansL; rw [hp, hs]; simp
    | true =>
      unfold flyL spansL
      rw [hp, hs]
      simp only [if_true]
      by_cases hk : k < l.length + 1
      · have e : ((List.range (l.length + 1)).map fun k => bwdS q s fr b l l.length (l.length - k)).getD k (0, 0) = bwdS q s fr b l l.length (l.length - k) := by
          rw [List.getD_eq_getElem?_getD]
          simp [hk]
        rw [e]
        have h1 := bwd_range hp l.length (l.length - k)
        have h2 : (bwdS q s fr b l l.length (l.length - k)).1 ≤ (bwdS q s fr b l l.length (l.length - k)).2 := by
          unfold spanB at hs
          have h3 := (Bool.and_eq_true_iff.1 hs).2
          simp only [bwdTo, List.all_eq_true, List.mem_range, someB, decide_eq_true_eq] at h3
          exact h3 _ (by omega)
        omega
      · have e : ((List.range (l.length + 1)).map fun k => bwdS q s fr b l l.length (l.length - k)).getD k (0, 0) = (0, 0) := by
          rw [List.getD_eq_getElem?_getD]
          simp [hk]
        rw [e]
        simp
end Go.Proofs.YtijcdikekgmfoaaGreatDoor

namespace Go.Proofs.YtijcdikekgmfoaaGreatDoor
open Go.RowKit

section
variable {q s fr b : Int} {l : List Stp} {k : Nat}
theorem left_low (hk : k < l.length) (x y nw : Int) (j : Nat) (hj : j ≤ l.length - k) : lowB (leftFr fr l k nw) (leftL l k x y nw) j = if j = 0 then x else if j = 1 then mxB (lowB fr l (k + 1)) (nw + 1) else lowB fr l (k + j) := by
  unfold lowB
  rw [leftL_length]
  by_cases h : j < l.length - k
  · rw [if_pos h, leftL_getD x y nw (by omega)]
    by_cases h0 : j = 0
    · rw [if_pos h0, if_pos h0]
    · rw [if_neg h0, if_neg h0]
      by_cases h1 : j = 1
      · subst h1
        rw [if_pos rfl, if_pos rfl, if_pos (by omega)]
      · rw [if_neg h1, if_neg h1, if_pos (by omega)]
  · rw [if_neg h, if_neg (by omega)]
    unfold leftFr afterFr
    rw [List.length_drop]
    by_cases h1 : j = 1
    · rw [if_pos h1, if_neg (by omega), if_neg (by omega)]
    · rw [if_neg h1, if_pos (by omega), if_neg (by omega)]
theorem left_high (hk : k < l.length) (x y nw : Int) (j : Nat) (hj : j ≤ l.length - k) : highB b (leftL l k x y nw) j = if j = 0 then y else highB b l (k + j) := by
  unfold highB
  rw [leftL_length]
  by_cases h : j < l.length - k
  · have h' : k + j < l.length := by omega
    rw [if_pos h, leftL_getD x y nw h', if_pos h']
    by_cases h0 : j = 0
    · simp [h0]
    · by_cases h1 : j = 1
      · subst h1; simp
      · simp [h0, h1]
  · have h0 : ¬ j = 0 := by omega
    have h' : ¬ k + j < l.length := by omega
    rw [if_neg h, if_neg h0, if_neg h']
theorem left_most (x y nw : Int) (j : Nat) (hj : j < l.length - k) : mostB s (leftL l k x y nw) j = mostB s l (k + j) := by
  unfold mostB
  rw [leftL_getD x y nw (by omega)]
  by_cases h0 : j = 0
  · subst h0; rw [if_pos rfl, Nat.add_zero]
  · rw [if_neg h0]
    by_cases h1 : j = 1
    · subst h1; rw [if_pos rfl]
    · rw [if_neg h1]
theorem left_keeps (hk : k < l.length) (x y nw : Int) (z : Nat → Int) : Keeps q s (leftFr fr l k nw) b (leftL l k x y nw) z 0 (l.length - k) ↔
    (x ≤ z 0 ∧ z 0 ≤ y) ∧ nw + 1 ≤ z 1 ∧ (∀ j, 1 ≤ j → j ≤ l.length - k → lowB fr l (k + j) ≤ z j ∧ z j ≤ highB b l (k + j)) ∧ ∀ j, j < l.length - k → q ≤ z (j + 1) - z j ∧ z (j + 1) - z j ≤ mostB s l (k + j) := by
  unfold Keeps
  constructor
  · rintro ⟨h1, h2⟩
    have a0 := h1 0 (by omega) (by omega)
    have a1 := h1 1 (by omega) (by omega)
    rw [left_low hk x y nw 0 (by omega), left_high hk x y nw 0 (by omega), if_pos rfl, if_pos rfl] at a0
    rw [left_low hk x y nw 1 (by omega), if_neg (by omega), if_pos rfl] at a1
    have m1 := mxB_le (lowB fr l (k + 1)) (nw + 1)
    refine ⟨a0, by omega, fun j hj hj' => ?_, fun j hj => ?_⟩
    · have a := h1 j (by omega) hj'
      have hj0 : ¬ j = 0 := by omega
      rw [left_low hk x y nw j hj', left_high hk x y nw j hj', if_neg hj0, if_neg hj0] at a
      by_cases e : j = 1
      · subst e
        rw [if_pos rfl] at a
        omega
      · rw [if_neg e] at a
        exact a
    · have a := h2 j (by omega) hj
      rwa [left_most x y nw j hj] at a
  · rintro ⟨h0, h1, h2, h3⟩
    refine ⟨fun j _ hj' => ?_, fun j _ hj => ?_⟩
    · rw [left_low hk x y nw j hj', left_high hk x y nw j hj']
      by_cases e0 : j = 0
      · subst e0; rw [if_pos rfl, if_pos rfl]; exact h0
      · rw [if_neg e0, if_neg e0]
        have a := h2 j (by omega) hj'
        by_cases e : j = 1
        · subst e
          rw [if_pos rfl]
          have m1 := mxB_le (lowB fr l (k + 1)) (nw + 1)
          omega
        · rw [if_neg e]
          exact a
    · rw [left_most x y nw j hj]
      exact h3 j hj
theorem left_fly (hp : pathB q s fr b l = true) (hk : k < l.length) {x y nw : Int} (hx : 0 ≤ x) (hy : y ≤ 10000) (hn : 0 ≤ nw) : spanB q s (leftFr fr l k nw) b (leftL l k x y nw) = true ↔ ∃ z, Keeps q s (leftFr fr l k nw) b (leftL l k x y nw) z 0 (l.length - k) := by
  have hW := left_wide hp hk hx hy hn
  rw [hW.span_fwd, leftL_length]
  exact fly_iff hW.quick _
end

/-- A tube within another one, whose flights are flights there, from a place on. -/
theorem small_sub {q s fr b q' s' fr' b' : Int} {m l : List Stp} {k : Nat} (hm : flyB q s fr b m = true) (hl : flyB q' s' fr' b' l = true) (hk : m.length + k ≤ l.length)
    (hg : ∀ j, j < m.length → (m.getD j .zero).x = (l.getD (k + j) .zero).x ∧ (m.getD j .zero).y = (l.getD (k + j) .zero).y ∧ (m.getD j .zero).lo = (l.getD (k + j) .zero).lo ∧ (m.getD j .zero).hi = (l.getD (k + j) .zero).hi)
    (hz : ∀ j, j ≤ m.length → ∀ t, inP t (spanAt q s fr b m m.length j) → inP t (spanAt q' s' fr' b' l l.length (k + j))) : smallB (tubeL q s fr b m) (tubeL q' s' fr' b' l) = true := by
  obtain ⟨p1, p2, _⟩ := flyL_at hm
  unfold smallB
  rw [List.all_eq_true]
  intro a ha
  rw [Bool.or_eq_true]
  right
  unfold tubeL at ha
  rw [if_pos hm] at ha
  obtain ⟨j, hj, rfl⟩ := List.mem_map.1 ha
  rw [List.mem_range] at hj
  rw [List.any_eq_true]
  refine ⟨tubeAt (flyL q' s' fr' b' l) l (k + j), ?_, ?_⟩
  · unfold tubeL
    rw [if_pos hl]
    exact List.mem_map.2 ⟨k + j, List.mem_range.2 (by omega), rfl⟩
  · obtain ⟨g1, g2, g3, g4⟩ := hg j hj
    have gd : ∀ {q s fr b : Int} {l : List Stp}, flyB q s fr b l = true → ∀ i, i ≤ l.length → (flyL q s fr b l).getD i (0, 0) = spanAt q s fr b l l.length i := fun h i hi => by
      rw [List.getD_eq_getElem?_getD, map_at h hi]; rfl
    have n1 := span_some (fun k => most_quick p1 k) p2 (k := j)
    have n2 := span_some (fun k => most_quick p1 k) p2 (k := j + 1)
    have z1 := (hz j (by omega) _ (show inP (spanAt q s fr b m m.length j).1 _ from ⟨Int.le_refl _, n1⟩)).1
    have z2 := (hz (j + 1) (by omega) _ (show inP (spanAt q s fr b m m.length (j + 1)).2 _ from ⟨n2, Int.le_refl _⟩)).2
    unfold coverB tubeAt
    simp only [gd hm j (by omega), gd hm (j + 1) (by omega), gd hl (k + j) (by omega), show k + j + 1 = k + (j + 1) by omega, gd hl (k + (j + 1)) (by omega), g1, g2, g3, g4, Bool.and_eq_true, beq_iff_eq, decide_eq_true_eq]
    exact ⟨⟨⟨⟨⟨trivial, trivial⟩, Int.le_refl _⟩, Int.le_refl _⟩, z1⟩, by omega⟩
theorem fly_win {q s fr b : Int} {l : List Stp} (h : flyB q s fr b l = true) {k : Nat} (hk : k ≤ l.length) : lowB fr l k ≤ (spanAt q s fr b l l.length k).1 ∧ (spanAt q s fr b l l.length k).1 ≤ (spanAt q s fr b l l.length k).2 ∧ (spanAt q s fr b l l.length k).2 ≤ highB b l k := by
  obtain ⟨p1, p2, _⟩ := flyL_at h
  have hm : ∀ k, q ≤ mostB s l k := fun k => most_quick p1 k
  have n1 := span_some hm p2 (k := k)
  exact ⟨(span_win hm p2 hk ⟨Int.le_refl _, n1⟩).1, n1, (span_win hm p2 hk ⟨n1, Int.le_refl _⟩).2⟩
theorem small_none (l : List Bx) : smallB [] l = true := rfl

section
variable {q s fr b : Int} {l : List Stp} {st nw : Int}
theorem restA_is {en : Int} (h : (restA q s fr b l st en nw).ok = true) : pathB q s fr b l = true ∧ (0 ≤ st ∧ st.toNat < l.length) ∧ (0 ≤ nw ∧ nw ≤ 10000) ∧ (0 ≤ en ∧ en ≤ nw) ∧
    restA q s fr b l st en nw = { q := q, s := s, fr := leftFr fr l st.toNat nw, b := b, l := leftL l st.toNat (mxB (l.getD st.toNat .zero).fr en) (mnB (l.getD st.toNat .zero).by_ en) nw, ok := true } ∧
    spanB q s (leftFr fr l st.toNat nw) b (leftL l st.toNat (mxB (l.getD st.toNat .zero).fr en) (mnB (l.getD st.toNat .zero).by_ en) nw) = true := by
  unfold restA at h ⊢
  split at h
  · rename_i hc
    rw [if_pos hc]
    obtain ⟨h1, h2⟩ := canA_ok h
    simp only [inStepB, Bool.and_eq_true, inB_iff] at hc
    obtain ⟨⟨⟨hp, hst⟩, hnw⟩, hen⟩ := hc
    exact ⟨hp, ⟨hst.1, by omega⟩, hnw, hen, h2, h1⟩
  · simp [Ans.no] at h
theorem seenA_is (h : (seenA q s fr b l st nw).ok = true) : flyB q s fr b l = true ∧ (0 ≤ st ∧ st.toNat < l.length) ∧ (0 ≤ nw ∧ nw ≤ 10000) ∧
    seenA q s fr b l st nw = { q := q, s := s, fr := leftFr fr l st.toNat nw, b := b, l := leftL l st.toNat (spanOf q s fr b l st.toNat).1 (mnB (spanOf q s fr b l st.toNat).2 nw) nw, ok := true } ∧
    spanB q s (leftFr fr l st.toNat nw) b (leftL l st.toNat (spanOf q s fr b l st.toNat).1 (mnB (spanOf q s fr b l st.toNat).2 nw) nw) = true := by
  unfold seenA at h ⊢
  split at h
  · rename_i hc
    rw [if_pos hc]
    obtain ⟨h1, h2⟩ := canA_ok h
    simp only [inStepB, Bool.and_eq_true, inB_iff] at hc
    obtain ⟨⟨⟨hp, hst⟩, hnw⟩, hsp⟩ := hc
    exact ⟨by unfold flyB; rw [hp, hsp]; rfl, ⟨hst.1, by omega⟩, hnw, h2, h1⟩
  · simp [Ans.no] at h
theorem stepwin (hp : pathB q s fr b l = true) {k : Nat} (hk : k < l.length) : lowB fr l k = (l.getD k .zero).fr ∧ highB b l k = (l.getD k .zero).by_ ∧ 0 ≤ (l.getD k .zero).fr ∧ (l.getD k .zero).by_ ≤ 10000 := by
  have hb := bounds_ok hp k
  unfold lowB highB at hb ⊢
  rw [if_pos hk, if_pos hk] at hb
  rw [if_pos hk, if_pos hk]
  exact ⟨rfl, rfl, hb⟩

/-- What is left is ok; it was entered when it was; it is left behind now. -/
theorem rest_ends {en : Int} (h : (restA q s fr b l st en nw).ok = true) :
    flyB (restA q s fr b l st en nw).q (restA q s fr b l st en nw).s (restA q s fr b l st en nw).fr (restA q s fr b l st en nw).b (restA q s fr b l st en nw).l = true ∧ 1 ≤ (restA q s fr b l st en nw).l.length ∧
    spanAt (restA q s fr b l st en nw).q (restA q s fr b l st en nw).s (restA q s fr b l st en nw).fr (restA q s fr b l st en nw).b (restA q s fr b l st en nw).l (restA q s fr b l st en nw).l.length 0 = (en, en) ∧
    nw < (spanAt (restA q s fr b l st en nw).q (restA q s fr b l st en nw).s (restA q s fr b l st en nw).fr (restA q s fr b l st en nw).b (restA q s fr b l st en nw).l (restA q s fr b l st en nw).l.length 1).1 := by
  obtain ⟨hp, hk, hnw, hen, he, hsp⟩ := restA_is h
  obtain ⟨_, _, w1, w2⟩ := stepwin hp hk.2
  have m1 := mxB_le (l.getD st.toNat .zero).fr en
  have m2 := mnB_le (l.getD st.toNat .zero).by_ en
  have hpl := left_path hp hk.2 (x := mxB (l.getD st.toNat .zero).fr en) (y := mnB (l.getD st.toNat .zero).by_ en) (nw := nw) (by omega) (by omega) hnw.1 hsp
  rw [he]
  dsimp only
  have hfl : flyB q s (leftFr fr l st.toNat nw) b (leftL l st.toNat (mxB (l.getD st.toNat .zero).fr en) (mnB (l.getD st.toNat .zero).by_ en) nw) = true := by unfold flyB; rw [hpl, hsp]; rfl
  have hlen := leftL_length l st.toNat (mxB (l.getD st.toNat .zero).fr en) (mnB (l.getD st.toNat .zero).by_ en) nw
  have a1 := fly_win hfl (k := 0) (by omega)
  have a3 := fly_win hfl (k := 1) (by omega)
  rw [left_low hk.2 _ _ nw 0 (by omega), left_high hk.2 _ _ nw 0 (by omega), if_pos rfl, if_pos rfl] at a1
  rw [left_low hk.2 _ _ nw 1 (by omega), if_neg (by omega), if_pos rfl] at a3
  have m3 := mxB_le (lowB fr l (st.toNat + 1)) (nw + 1)
  exact ⟨hfl, by omega, Prod.ext (by dsimp only; omega) (by dsimp only; omega), by omega⟩

/-- What is left for anybody who is there: it is ok; all who may be there can go on, within its tube; its tube lies within the path's. -/
theorem seen_all (h : (seenA q s fr b l st nw).ok = true) :
    flyB (seenA q s fr b l st nw).q (seenA q s fr b l st nw).s (seenA q s fr b l st nw).fr (seenA q s fr b l st nw).b (seenA q s fr b l st nw).l = true ∧
    (∀ t, inP t (spanAt (seenA q s fr b l st nw).q (seenA q s fr b l st nw).s (seenA q s fr b l st nw).fr (seenA q s fr b l st nw).b (seenA q s fr b l st nw).l (seenA q s fr b l st nw).l.length 0) → (restA q s fr b l st t nw).ok = true ∧
      smallB (tubeL (restA q s fr b l st t nw).q (restA q s fr b l st t nw).s (restA q s fr b l st t nw).fr (restA q s fr b l st t nw).b (restA q s fr b l st t nw).l) (tubeL (seenA q s fr b l st nw).q (seenA q s fr b l st nw).s (seenA q s fr b l st nw).fr (seenA q s fr b l st nw).b (seenA q s fr b l st nw).l) = true) ∧
    smallB (tubeL (seenA q s fr b l st nw).q (seenA q s fr b l st nw).s (seenA q s fr b l st nw).fr (seenA q s fr b l st nw).b (seenA q s fr b l st nw).l) (tubeL q s fr b l) = true := by
  obtain ⟨hfp, hk, hnw, he, hsp⟩ := seenA_is h
  obtain ⟨hp, hpf, _⟩ := flyL_at hfp
  rw [he]
  obtain ⟨k, hkk⟩ : ∃ k, st.toNat = k := ⟨_, rfl⟩
  rw [hkk] at hk hsp ⊢
  have hsb : spanB q s fr b l = true := by unfold flyB at hfp; rw [Bool.and_eq_true] at hfp; exact hfp.2
  have e0 : spanOf q s fr b l k = spanAt q s fr b l l.length k := rfl
  rw [e0] at hsp ⊢
  have hqm : ∀ i, q ≤ mostB s l i := fun i => most_quick hp i
  have hn := span_some hqm hpf (k := k)
  have m2 := mnB_le (spanAt q s fr b l l.length k).2 nw
  have x0 : 0 ≤ (spanAt q s fr b l l.length k).1 := span_lo hp hsb (by omega)
  obtain ⟨X, hX⟩ : ∃ X, (spanAt q s fr b l l.length k).1 = X := ⟨_, rfl⟩
  obtain ⟨Y, hY⟩ : ∃ Y, mnB (spanAt q s fr b l l.length k).2 nw = Y := ⟨_, rfl⟩
  rw [hX, hY] at hsp ⊢
  dsimp only
  have hpl := left_path hp hk.2 (x := X) (y := Y) (nw := nw) (by omega) (by omega) hnw.1 hsp
  have hfl : flyB q s (leftFr fr l k nw) b (leftL l k X Y nw) = true := by unfold flyB; rw [hpl, hsp]; rfl
  have hlen := leftL_length l k X Y nw
  obtain ⟨p1, p2, _⟩ := flyL_at hfl
  have hqm' : ∀ i, q ≤ mostB s (leftL l k X Y nw) i := fun i => most_quick p1 i
  refine ⟨hfl, fun t ht => ?_, ?_⟩
  · -- a flight of what is left for anybody that was entered at t
    obtain ⟨z, hz, rfl⟩ := (span_iff hqm' p2 (k := 0) (by omega) t).1 ht
    rw [hlen] at hz
    have hz' := (left_keeps hk.2 X Y nw z).1 hz
    have hin : inP (z 0) (spanAt q s fr b l l.length k) := ⟨by omega, by omega⟩
    have hw := span_win hqm hpf (k := k) (by omega) hin
    obtain ⟨w1, w2, w3, w4⟩ := stepwin hp hk.2
    have ex : mxB (l.getD k .zero).fr (z 0) = z 0 := by have := mxB_le (l.getD k .zero).fr (z 0); omega
    have ey : mnB (l.getD k .zero).by_ (z 0) = z 0 := by have := mnB_le (l.getD k .zero).by_ (z 0); omega
    have hzr : Keeps q s (leftFr fr l k nw) b (leftL l k (z 0) (z 0) nw) z 0 (l.length - k) := (left_keeps hk.2 (z 0) (z 0) nw z).2 ⟨⟨Int.le_refl _, Int.le_refl _⟩, hz'.2⟩
    have hsr : spanB q s (leftFr fr l k nw) b (leftL l k (z 0) (z 0) nw) = true := (left_fly hp hk.2 (by omega) (by omega) hnw.1).2 ⟨z, hzr⟩
    have hr : restA q s fr b l st (z 0) nw = { q := q, s := s, fr := leftFr fr l k nw, b := b, l := leftL l k (z 0) (z 0) nw, ok := true } := by
      unfold restA
      rw [if_pos (by simp only [inStepB, Bool.and_eq_true, inB_iff]; exact ⟨⟨⟨hp, by omega⟩, by omega⟩, by omega⟩), hkk, ex, ey]
      unfold canA
      rw [if_pos hsr]
    rw [hr]
    refine ⟨rfl, ?_⟩
    dsimp only
    have hpr := left_path hp hk.2 (x := z 0) (y := z 0) (nw := nw) (by omega) (by omega) hnw.1 hsr
    have hfr : flyB q s (leftFr fr l k nw) b (leftL l k (z 0) (z 0) nw) = true := by unfold flyB; rw [hpr, hsr]; rfl
    have hlr := leftL_length l k (z 0) (z 0) nw
    obtain ⟨r1, r2, _⟩ := flyL_at hfr
    refine small_sub (k := 0) hfr hfl (by omega) (fun j hj => ?_) (fun j hj t ht => ?_)
    · rw [Nat.zero_add]
      obtain ⟨a1, a2, a3, a4⟩ := leftL_same (l := l) (k := k) (z 0) (z 0) nw (j := j) (by omega)
      obtain ⟨b1, b2, b3, b4⟩ := leftL_same (l := l) (k := k) X Y nw (j := j) (by omega)
      rw [a1, a2, a3, a4, b1, b2, b3, b4]
      exact ⟨rfl, rfl, rfl, rfl⟩
    · rw [Nat.zero_add]
      obtain ⟨y, hy, rfl⟩ := (span_iff (fun i => most_quick r1 i) r2 (k := j) (by omega) t).1 ht
      rw [hlr] at hy
      have hy' := (left_keeps hk.2 (z 0) (z 0) nw y).1 hy
      refine (span_iff hqm' p2 (k := j) (by omega) _).2 ⟨y, ?_, rfl⟩
      rw [hlen]
      exact (left_keeps hk.2 X Y nw y).2 ⟨by omega, hy'.2⟩
  · refine small_sub (k := k) hfl hfp (by omega) (fun j hj => ?_) (fun j hj t ht => ?_)
    · exact leftL_same (l := l) (k := k) X Y nw (j := j) (by omega)
    · obtain ⟨y, hy, rfl⟩ := (span_iff hqm' p2 (k := j) (by omega) t).1 ht
      rw [hlen] at hy
      have hy' := (left_keeps hk.2 X Y nw y).1 hy
      have hin : inP (y 0) (spanAt q s fr b l l.length k) := ⟨by omega, by omega⟩
      obtain ⟨x, hx, hxk⟩ := (span_iff hqm hpf (k := k) (by omega) _).1 hin
      refine (span_iff hqm hpf (k := k + j) (by omega) _).2 ⟨fun i => if i ≤ k then x i else y (i - k), ⟨fun i _ hi => ?_, fun i _ hi => ?_⟩, ?_⟩
      all_goals dsimp only
      · by_cases hik : i ≤ k
        · rw [if_pos hik]; exact hx.1 i (by omega) hi
        · rw [if_neg hik]
          have := hy'.2.2.1 (i - k) (by omega) (by omega)
          rwa [show k + (i - k) = i by omega] at this
      · by_cases hik : i ≤ k
        · by_cases hik1 : i + 1 ≤ k
          · rw [if_pos hik, if_pos hik1]; exact hx.2 i (by omega) hi
          · obtain rfl : i = k := by omega
            rw [if_pos (Nat.le_refl _), if_neg (by omega), hxk]
            have := hy'.2.2.2 0 (by omega)
            rwa [show i + 1 - i = 0 + 1 by omega, show i = i + 0 by omega]
        · rw [if_neg hik, if_neg (by omega)]
          have := hy'.2.2.2 (i - k) (by omega)
          rwa [show k + (i - k) = i by omega, show i - k + 1 = i + 1 - k by omega] at this
      · by_cases hj0 : j = 0
        · subst hj0; rw [if_pos (by omega)]; rw [Nat.add_zero]; exact hxk
        · rw [if_neg (by omega)]; rw [show k + j - k = j by omega]
end
end Go.Proofs.YtijcdikekgmfoaaGreatDoor

namespace Go.Proofs.YtijcdikekgmfoaaGreatDoor
open Go.RowKit

/-- A step whose entry is held. -/
def Stp.held (x : Stp) (lo hi : Int) : Stp := { x with fr := mxB lo x.fr, by_ := mnB hi x.by_ }
def heldF (fr : Int) (l : List Stp) (k : Nat) (lo : Int) : Int := if k < l.length then fr else mxB lo fr
def heldE (b : Int) (l : List Stp) (k : Nat) (hi : Int) : Int := if k < l.length then b else mnB hi b
def heldK (l : List Stp) (k : Nat) (lo hi : Int) : List Stp := l.set k ((l.getD k .zero).held lo hi)
theorem heldK_length (l : List Stp) (k : Nat) (lo hi : Int) : (heldK l k lo hi).length = l.length := by simp [heldK]
theorem heldK_getD (l : List Stp) (k : Nat) (lo hi : Int) (j : Nat) : (heldK l k lo hi).getD j .zero = if k = j ∧ j < l.length then (l.getD j .zero).held lo hi else l.getD j .zero := by
  unfold heldK
  simp only [List.getD_eq_getElem?_getD, List.getElem?_set]
  by_cases e : k = j
  · subst e
    by_cases h : k < l.length
    · simp [h]
    · simp [h]
  · simp [e]
theorem heldK_same (l : List Stp) (k : Nat) (lo hi : Int) (j : Nat) : ((heldK l k lo hi).getD j .zero).x = (l.getD j .zero).x ∧ ((heldK l k lo hi).getD j .zero).y = (l.getD j .zero).y ∧ ((heldK l k lo hi).getD j .zero).lo = (l.getD j .zero).lo ∧
    ((heldK l k lo hi).getD j .zero).hi = (l.getD j .zero).hi ∧ ((heldK l k lo hi).getD j .zero).ho = (l.getD j .zero).ho := by
  rw [heldK_getD]
  split <;> exact ⟨rfl, rfl, rfl, rfl, rfl⟩

section
variable {q s fr b : Int} {l : List Stp} {k : Nat} {lo hi : Int}

theorem held_low (hk : k ≤ l.length) (j : Nat) (hj : j ≤ l.length) : lowB (heldF fr l k lo) (heldK l k lo hi) j = if j = k then mxB lo (lowB fr l j) else lowB fr l j := by
  unfold lowB
  rw [heldK_length, heldK_getD]
  unfold heldF
  by_cases h : j < l.length
  · rw [if_pos h, if_pos h]
    by_cases e : k = j
    · rw [if_pos ⟨e, h⟩, if_pos e.symm]; rfl
    · rw [if_neg (fun x => e x.1), if_neg (fun x => e x.symm)]
  · rw [if_neg h, if_neg h]
    by_cases e : k = j
    · rw [if_neg (by omega), if_pos e.symm]
    · rw [if_pos (by omega), if_neg (fun x => e x.symm)]
theorem held_high (hk : k ≤ l.length) (j : Nat) (hj : j ≤ l.length) : highB (heldE b l k hi) (heldK l k lo hi) j = if j = k then mnB hi (highB b l j) else highB b l j := by
  unfold highB
  rw [heldK_length, heldK_getD]
  unfold heldE
  by_cases h : j < l.length
  · rw [if_pos h, if_pos h]
    by_cases e : k = j
    · rw [if_pos ⟨e, h⟩, if_pos e.symm]; rfl
    · rw [if_neg (fun x => e x.1), if_neg (fun x => e x.symm)]
  · rw [if_neg h, if_neg h]
    by_cases e : k = j
    · rw [if_neg (by omega), if_pos e.symm]
    · rw [if_pos (by omega), if_neg (fun x => e x.symm)]
theorem held_most (j : Nat) : mostB s (heldK l k lo hi) j = mostB s l j := by
  unfold mostB; rw [(heldK_same l k lo hi j).2.2.2.2]

/-- The flights of the held path are the flights whose tick is held. -/
theorem held1_keeps (hk : k ≤ l.length) (z : Nat → Int) : Keeps q s (heldF fr l k lo) (heldE b l k hi) (heldK l k lo hi) z 0 l.length ↔ Keeps q s fr b l z 0 l.length ∧ lo ≤ z k ∧ z k ≤ hi := by
  constructor
  · rintro ⟨h1, h2⟩
    have w : ∀ j, j ≤ l.length → (lowB fr l j ≤ z j ∧ z j ≤ highB b l j) ∧ (j = k → lo ≤ z k ∧ z k ≤ hi) := by
      intro j hj
      have := h1 j (by omega) hj
      rw [held_low hk j hj, held_high hk j hj] at this
      by_cases e : j = k
      · rw [if_pos e, if_pos e] at this
        have m1 := mxB_le lo (lowB fr l j)
        have m2 := mnB_le hi (highB b l j)
        subst e
        exact ⟨by omega, fun _ => by omega⟩
      · rw [if_neg e, if_neg e] at this
        exact ⟨this, fun h => absurd h e⟩
    refine ⟨⟨fun j _ hj => (w j hj).1, fun j g1 g2 => ?_⟩, (w k hk).2 rfl⟩
    have := h2 j g1 g2
    rwa [held_most] at this
  · rintro ⟨⟨h1, h2⟩, h3⟩
    refine ⟨fun j g1 g2 => ?_, fun j g1 g2 => by rw [held_most]; exact h2 j g1 g2⟩
    have := h1 j g1 g2
    rw [held_low hk j g2, held_high hk j g2]
    by_cases e : j = k
    · rw [if_pos e, if_pos e]
      have m1 := mxB_le lo (lowB fr l j)
      have m2 := mnB_le hi (highB b l j)
      subst e
      omega
    · rw [if_neg e, if_neg e]; exact this

/-- The held path is ok, where its window is not empty. -/
theorem held_path (hp : pathB q s fr b l = true) (_hk : k ≤ l.length) (hw : mxB lo (lowB fr l k) ≤ mnB hi (highB b l k)) : pathB q s (heldF fr l k lo) (heldE b l k hi) (heldK l k lo hi) = true := by
  have hb := bounds_ok hp k
  unfold pathB at hp ⊢
  rw [heldK_length]
  simp only [Bool.and_eq_true, decide_eq_true_eq, inB_iff] at hp ⊢
  obtain ⟨⟨⟨⟨p1, p2⟩, p3⟩, p4⟩, p5⟩ := hp
  have m1 := mxB_le lo (lowB fr l k)
  have m2 := mnB_le hi (highB b l k)
  refine ⟨⟨⟨⟨p1, p2⟩, ?_⟩, ?_⟩, ?_⟩
  · unfold heldF heldE
    by_cases h : k < l.length
    · rw [if_pos h, if_pos h]; exact p3
    · rw [if_neg h, if_neg h]
      have eL : lowB fr l k = fr := if_neg h
      have eH : highB b l k = b := if_neg h
      rw [eL] at hw m1 hb
      rw [eH] at hw m2 hb
      omega
  · unfold heldE
    by_cases h : k < l.length
    · rw [if_pos h]; exact p4
    · rw [if_neg h]
      have := mnB_le hi b
      omega
  · unfold goodTo at p5 ⊢
    simp only [List.all_eq_true, List.mem_range] at p5 ⊢
    intro i hi'
    have g := p5 i hi'
    unfold goodS at g ⊢
    obtain ⟨x1, x2, x3, x4, _⟩ := heldK_same l k lo hi i
    obtain ⟨y1, y2, y3, y4, _⟩ := heldK_same l k lo hi (i - 1)
    rw [x1, x2, x3, x4, y1, y2, y3, y4]
    simp only [Bool.and_eq_true] at g ⊢
    refine ⟨?_, g.2⟩
    have g1 := g.1
    by_cases e : k = i
    · subst e
      rw [heldK_getD, if_pos ⟨rfl, hi'⟩]
      have eL : lowB fr l k = (l.getD k .zero).fr := if_pos hi'
      have eH : highB b l k = (l.getD k .zero).by_ := if_pos hi'
      rw [eL] at hw m1 hb
      rw [eH] at hw m2 hb
      unfold stepB at g1 ⊢
      replace g1 := of_decide_eq_true g1
      refine decide_eq_true ?_
      show _ ∧ _ ∧ _ ∧ _ ∧ _ ∧ _ ∧ _ ∧ 0 ≤ mxB lo (l.getD k .zero).fr ∧ mxB lo (l.getD k .zero).fr ≤ mnB hi (l.getD k .zero).by_ ∧ mnB hi (l.getD k .zero).by_ ≤ 10000
      refine ⟨g1.1, g1.2.1, g1.2.2.1, g1.2.2.2.1, g1.2.2.2.2.1, g1.2.2.2.2.2.1, g1.2.2.2.2.2.2.1, ?_, hw, ?_⟩ <;> omega
    · rw [heldK_getD, if_neg (fun x => e x.1)]
      exact g1

theorem held_fly (hp : pathB q s fr b l = true) (hk : k ≤ l.length) {z : Nat → Int} (hz : Keeps q s fr b l z 0 l.length) (h1 : lo ≤ z k) (h2 : z k ≤ hi) : flyB q s (heldF fr l k lo) (heldE b l k hi) (heldK l k lo hi) = true := by
  have hw := hz.1 k (by omega) hk
  have m1 := mxB_le lo (lowB fr l k)
  have m2 := mnB_le hi (highB b l k)
  have hp' := held_path (lo := lo) (hi := hi) hp hk (by omega)
  unfold flyB
  rw [hp', span_fwd hp', heldK_length, Bool.true_and]
  exact (fly_iff (most_quick hp') l.length).2 ⟨z, (held1_keeps hk z).2 ⟨hz, h1, h2⟩⟩

/-- Each tick of each span is that of some flight. -/
theorem tight_span (h : flyB q s fr b l = true) (hk : k ≤ l.length) {t : Int} (ht : inP t (spanAt q s fr b l l.length k)) : flyB q s (heldF fr l k t) (heldE b l k t) (heldK l k t t) = true := by
  obtain ⟨hp, hf, _⟩ := flyL_at h
  obtain ⟨z, hz, e⟩ := (span_iff (most_quick hp) hf hk t).1 ht
  exact held_fly hp hk hz (by omega) (by omega)

/-- At each tick of each box of the tube some flight is there. -/
theorem tight_here (h : flyB q s fr b l = true) (hk : k < l.length) {t : Int} (h1 : (spanAt q s fr b l l.length k).1 ≤ t) (h2 : t + 1 ≤ (spanAt q s fr b l l.length (k + 1)).2) : ∃ z, Keeps q s fr b l z 0 l.length ∧ z k ≤ t ∧ t + 1 ≤ z (k + 1) := by
  obtain ⟨hp, hf, _⟩ := flyL_at h
  have hm := most_quick hp
  have hq := (kind_range hp).1
  by_cases c : (spanAt q s fr b l l.length k).2 ≤ t
  · exact ⟨_, last_keeps hm hf, c, h2⟩
  · obtain ⟨z, hz, e⟩ := (span_iff hm hf (show k ≤ l.length by omega) t).1 ⟨h1, by omega⟩
    refine ⟨z, hz, by omega, ?_⟩
    have := hz.2 k (by omega) hk
    omega

theorem keeps_mono (hq : 1 ≤ q) {z : Nat → Int} {n : Nat} (h : Keeps q s fr b l z 0 n) : ∀ (d i : Nat), i + d ≤ n → z i ≤ z (i + d)
  | 0, _, _ => Int.le_refl _
  | d + 1, i, hi => by
    have h1 := keeps_mono hq h d i (by omega)
    have h2 := h.2 (i + d) (by omega) (by omega)
    rw [show i + (d + 1) = i + d + 1 by omega]
    omega

/-- The path of the law's second half: the k-th entry by the tick, the next one behind it. -/
theorem tight_first (h : flyB q s fr b l = true) (hk : k < l.length) {t : Int} (_h0 : 0 ≤ t) (h1 : (spanAt q s fr b l l.length k).1 ≤ t) (h2 : t + 1 ≤ (spanAt q s fr b l l.length (k + 1)).2) :
    ∃ F : List Int, (flyL q s (heldF (heldF fr l k 0) (heldK l k 0 t) (k + 1) (t + 1)) (heldE (heldE b l k t) (heldK l k 0 t) (k + 1) 10000) (heldK (heldK l k 0 t) (k + 1) (t + 1) 10000)).map (·.1) = F ∧
      F.length = l.length + 1 ∧ allowB q s fr b l F = true ∧ (∀ j, j < k → F.getD (j + 1) 0 ≤ t) ∧ F.getD k 0 ≤ t ∧ t < F.getD (k + 1) 0 ∧ ∀ j, 0 ≤ F.getD j 0 ∧ F.getD j 0 ≤ 10000 := by
  obtain ⟨hp, hf, _⟩ := flyL_at h
  have hq := (kind_range hp).1
  obtain ⟨z, hz, g1, g2⟩ := tight_here h hk h1 h2
  have r : ∀ j, j ≤ l.length → 0 ≤ z j ∧ z j ≤ 10000 := fun j hj => by
    have := hz.1 j (by omega) hj
    have := bounds_ok hp j
    omega
  have f1 := held_fly (lo := 0) (hi := t) hp (show k ≤ l.length by omega) hz (r k (by omega)).1 g1
  obtain ⟨hp1, _, _⟩ := flyL_at f1
  have hz1 := (held1_keeps (lo := 0) (hi := t) (show k ≤ l.length by omega) z).2 ⟨hz, (r k (by omega)).1, g1⟩
  have e1 := heldK_length l k 0 t
  have hz1' : Keeps q s (heldF fr l k 0) (heldE b l k t) (heldK l k 0 t) z 0 (heldK l k 0 t).length := by rw [e1]; exact hz1
  have hk1 : k + 1 ≤ (heldK l k 0 t).length := by omega
  have f2 := held_fly (lo := t + 1) (hi := 10000) hp1 hk1 hz1' g2 (r (k + 1) (by omega)).2
  refine ⟨_, rfl, ?_, ?_⟩
  · rw [List.length_map, map_len f2, heldK_length, heldK_length]
  have ha := first_allow f2
  obtain ⟨hp2, _, _⟩ := flyL_at f2
  have hl2 : (flyL q s (heldF (heldF fr l k 0) (heldK l k 0 t) (k + 1) (t + 1)) (heldE (heldE b l k t) (heldK l k 0 t) (k + 1) 10000) (heldK (heldK l k 0 t) (k + 1) (t + 1) 10000)).length = l.length + 1 := by rw [map_len f2, heldK_length, heldK_length]
  generalize hF : (flyL q s (heldF (heldF fr l k 0) (heldK l k 0 t) (k + 1) (t + 1)) (heldE (heldE b l k t) (heldK l k 0 t) (k + 1) 10000) (heldK (heldK l k 0 t) (k + 1) (t + 1) 10000)).map (·.1) = F at ha
  have hFl : F.length = l.length + 1 := by rw [← hF, List.length_map, hl2]
  have k2 := ((allowB_keeps hp2 F).1 ha).2
  rw [heldK_length] at k2
  obtain ⟨k1, b1, _⟩ := (held1_keeps hk1 _).1 k2
  rw [e1] at k1
  obtain ⟨k0, _, b0⟩ := (held1_keeps (show k ≤ l.length by omega) _).1 k1
  refine ⟨(allowB_keeps hp F).2 ⟨hFl, k0⟩, fun j hj => ?_, b0, by omega, fun j => ?_⟩
  · have := keeps_mono hq k0 (k - (j + 1)) (j + 1) (by omega)
    rw [show j + 1 + (k - (j + 1)) = k by omega] at this
    exact Int.le_trans this b0
  · rcases Nat.lt_or_ge j (l.length + 1) with hj | hj
    · have w1 := k0.1 j (by omega) (by omega)
      have w2 := bounds_ok hp j
      exact ⟨Int.le_trans w2.1 w1.1, Int.le_trans w1.2 w2.2⟩
    · rw [List.getD_eq_getElem?_getD, List.getElem?_eq_none (by omega)]
      exact ⟨by simp, by simp⟩
end
end Go.Proofs.YtijcdikekgmfoaaGreatDoor

namespace Go.Proofs.YtijcdikekgmfoaaGreatDoor
open Go.RowKit

theorem fbox_info : (Tryz.prog.info? 80).map (fun i => (i.zero, i.size, i.bytes)) = some (some (.agg #[.int .i64 0, .int .i64 0, .int .i64 0, .int .i64 0, .int .i64 0, .int .i64 0]), 6, 48) := by kernel_rfl
theorem rowC_snocF (l : List Bx) (s : Bx) : rowC (l ++ [s]) = rowC l ++ s.cells := by rw [rowC_append, rowC_one]
theorem six_newF (w : World) (s : Bx) (t : TypeId) : ∀ (j : Nat) (u : Value), s.cells[j]? = some u → (w.alloc (.cells #[.int .i64 s.x, .int .i64 s.y, .int .i64 s.lo, .int .i64 s.hi, .int .i64 s.in_, .int .i64 s.out] t)).cell? ((⟨w.heap.size, 0, none⟩ : Addr).add j) = some u := by
  intro j u hj
  match j, hj with
  | 0, hj => simp at hj; subst hj; simp [Addr.add, go_sem]
  | 1, hj => simp at hj; subst hj; simp [Addr.add, go_sem]
  | 2, hj => simp at hj; subst hj; simp [Addr.add, go_sem]
  | 3, hj => simp at hj; subst hj; simp [Addr.add, go_sem]
  | 4, hj => simp at hj; subst hj; simp [Addr.add, go_sem]
  | 5, hj => simp at hj; subst hj; simp [Addr.add, go_sem]

/-- What lies while the tube is laid: all that lay, the spans, the boxes up to now. -/
structure TbW (w wr : World) (N : Nat) (vs : Value) (F : List (Int × Int)) (v : Value) (m : List Bx) : Prop where
  old : Below w.heap.size w wr
  lt : N ≤ wr.heap.size
  sp : wr.ownsRow w.heap.size 56 2 vs F.length (spanCells F)
  spN : ∀ k, vs.ownBlock = some k → k < N
  own : wr.ownsRow N 80 6 v m.length (rowC m)
section
variable {w wr w' : World} {N : Nat} {vs v : Value} {F : List (Int × Int)} {m : List Bx}
theorem TbW.keep (h : TbW w wr N vs F v m) (hb : Below wr.heap.size wr w') : TbW w w' N vs F v m :=
  ⟨h.old.trans (hb.mono h.old.size), Nat.le_trans h.lt hb.size, owns_below h.sp hb, h.spN, owns_below h.own hb⟩
theorem TbW.push {v7 : Value} {t : Bx} (h : TbW w wr N vs F v m) (hN : w.heap.size ≤ N) (hg : wr.grownBy w' v.ownBlock) (ho : w'.ownsRow N 80 6 v7 (m.length + 1) (rowC m ++ t.cells)) : TbW w w' N vs F v7 (m ++ [t]) := by
  have hbase := owns_base h.own
  refine ⟨h.old.grown hg h.old.size (fun k e => by have := hbase k e; omega), Nat.le_trans h.lt hg.size, ?_, h.spN, ?_⟩
  · refine h.sp.kept hg ?_
    cases e : vs.ownBlock with
    | none => exact Or.inl rfl
    | some k => exact Or.inr (fun e2 => by have := h.spN k e; have := hbase k e2.symm; omega)
  · rw [rowC_snocF, List.length_append]
    exact ho
end
theorem spanCells_two' {F : List (Int × Int)} {k : Nat} (h : k < F.length) : (spanCells F)[k * 2]? = some (.int .i64 (F.getD k (0, 0)).1) ∧ (spanCells F)[k * 2 + 1]? = some (.int .i64 (F.getD k (0, 0)).2) :=
  spanCells_get F k _ (by rw [List.getD_eq_getElem?_getD, List.getElem?_eq_getElem h]; rfl)
theorem flyL_len {q s fr b : Int} {l : List Stp} (h : flyB q s fr b l = true) : (flyL q s fr b l).length = l.length + 1 := by
  unfold flyB at h
  obtain ⟨h1, h2⟩ := Bool.and_eq_true_iff.1 h
  unfold flyL spansL
  rw [if_pos h1, if_pos h2]
  simp
theorem fly_len {q s fr b : Int} {l : List Stp} (h : flyB q s fr b l = true) : l.length ≤ 40 := by
  unfold flyB at h
  have := path_len (Bool.and_eq_true_iff.1 h).1
  omega

set_option maxRecDepth 20000 in
set_option maxHeartbeats 4000000 in
theorem flyTubeI_any (hI : SpansSaid) (q s fr b : Int) (a : Option Addr) (b0 o cap : Nat) (l : List Stp) (w : World) (hl : l.length ≤ 1048576) (hs : StepsAt w a b0 o l) :
    Calls Tryz.prog 11 #[.agg #[.int .i64 q, .int .i64 s, .slice a l.length cap, .int .i64 fr, .int .i64 b]] w
      fun e w' => ∃ v, e = .returned v ∧ w'.ownsRow w.heap.size 80 6 v (tubeL q s fr b l).length (rowC (tubeL q s fr b l)) ∧ Below w.heap.size w w' := by
  obtain ⟨i0, hi, hz0, hz1, hz2⟩ := info_parts fbox_info
  have hr := fly_range q s fr b l
  have P0 := BoxP.new w q s fr b (.slice a l.length cap) 27
  go_enter Tryz.func11, Tryz.ntmps11
  go_wp2_with fail
  refine (hI _ _ _ _ _ b0 o _ _ _ hl (hs.below ((Below.refl _ _).alloc (Nat.le_refl _) _) hs.lt)).mono ?_
  rintro e w1 ⟨vs, rfl, hsp, hb1⟩
  have P1 := P0.below hb1
  have B1 : Below w.heap.size w w1 := ((Below.refl _ _).alloc (Nat.le_refl _) _).trans (hb1.mono (by simp))
  cases hf : flyB q s fr b l with
  | false =>
    have G : Hid (tubeL q s fr b l = []) := by show _ = _; unfold tubeL; rw [hf]; rfl
    go_wp2
    go_ret
    exact ⟨_, rfl, by rw [G.out]; exact World.ownsRow_nil _ _ _ _, B1⟩
  | true =>
    have G : Hid (tubeL q s fr b l = tubeTo (flyL q s fr b l) l l.length) := by show _ = _; unfold tubeL; rw [hf]; rfl
    have hF := flyL_len hf
    have h40 := fly_len hf
    obtain ⟨g, gc, rfl, hg1, hg2⟩ := owns_some hsp (by omega)
    rw [hF]
    generalize flyL q s fr b l = F at *
    have T1 : TbW w w1 w1.heap.size (.slice (some ⟨g, 0, none⟩) F.length gc) F (.slice none 0 0) (tubeTo F l 0) := ⟨B1, Nat.le_refl _, ⟨hsp.1, hsp.2.imp id fun ⟨g, cap, cur, h1, h2, h3⟩ => ⟨g, cap, cur, h1, Nat.le_trans (by simp) h2, h3⟩⟩, owns_lt hsp, World.ownsRow_nil _ _ _ _⟩
    have p2 := P1.p2
    go_wp2
    have hN : w.heap.size ≤ w1.heap.size := B1.size
    clear P0 P1 p2 hb1 B1 hsp
    generalize w1.heap.size = N at *
    go_loopw [5, 19] (fun v x wr => ∃ k : Nat, k ≤ l.length ∧ x = .int .i64 k ∧ TbW w wr N (.slice (some ⟨g, 0, none⟩) F.length gc) F v (tubeTo F l k)) (fun _ x _ => l.length - (intOf x).toNat)
    case atStart => exact ⟨0, Nat.zero_le _, rfl, T1⟩
    case round =>
      clear T1
      obtain ⟨k, hk, rfl, hT⟩ := hrel
      by_cases hlt : k < l.length
      · obtain ⟨t, ht⟩ : ∃ t, l[k]? = some t := ⟨l[k], List.getElem?_eq_getElem hlt⟩
        have hne : l ≠ [] := by intro e; subst e; simp at hlt
        obtain rfl := hs.here hne
        obtain ⟨c0, c1, c2, c3, c4, c5, c6⟩ := (hs.below hT.old hs.lt).seven ht
        have s0 := (hT.sp.cellAt (k * 2) (by omega)).trans (spanCells_two' (F := F) (k := k) (by omega)).1
        have s1 := (hT.sp.cellAt ((k + 1) * 2 + 1) (by omega)).trans (spanCells_two' (F := F) (k := k + 1) (by omega)).2
        have hgr := owns_lt hT.sp g rfl
        have k0 : (0 : Int) ≤ (k : Int) := by omega
        have k1 : (k : Int) < (l.length : Int) := by omega
        have k2 : (k : Int) + 1 < (l.length : Int) + 1 := by omega
        have k3 : (0 : Int) ≤ (k : Int) + 1 := by omega
        have k4 : (k : Int) < (l.length : Int) + 1 := by omega
        obtain ⟨hh1, hh2⟩ := hr (k + 1)
        have HB : Hid (tubeTo F l (k + 1) = tubeTo F l k ++ [⟨t.x, t.y, t.lo, t.hi, (F.getD k (0, 0)).1, (F.getD (k + 1) (0, 0)).2 - 1⟩]) := by
          show _ = _
          rw [tubeTo_succ]
          unfold tubeAt
          rw [List.getD_eq_getElem?_getD (l := l), ht]
          rfl
        have hlen := tubeTo_length F l k
        clear ht
        generalize hi1 : (F.getD k (0, 0)).1 = in1 at *
        generalize ho1 : (F.getD (k + 1) (0, 0)).2 = out1 at *
        clear hi1 ho1
        have wr1 : IntKind.i64.wrap (out1 - 1) = out1 - 1 := by rw [IntKind.wrap_i64]; omega
        go_wp2
        have T3 := ((hT.keep ((Below.refl wr.heap.size wr).alloc (Nat.le_refl _) (.cells #[.int .i64 t.x, .int .i64 t.y, .int .i64 t.lo, .int .i64 t.hi, .int .i64 t.fr, .int .i64 t.by_, .bool t.ho] 44))).keep ((Below.refl _ _).alloc (Nat.le_refl _) (.cells #[.int .i64 t.x, .int .i64 t.y, .int .i64 t.lo, .int .i64 t.hi, .int .i64 in1, .int .i64 (out1 - 1)] 80))).keep ((Below.refl _ _).drew)
        have hnw : ∀ (j : Nat) (u : Value), (Bx.cells ⟨t.x, t.y, t.lo, t.hi, in1, out1 - 1⟩)[j]? = some u → (((wr.alloc (.cells #[.int .i64 t.x, .int .i64 t.y, .int .i64 t.lo, .int .i64 t.hi, .int .i64 t.fr, .int .i64 t.by_, .bool t.ho] 44)).alloc (.cells #[.int .i64 t.x, .int .i64 t.y, .int .i64 t.lo, .int .i64 t.hi, .int .i64 in1, .int .i64 (out1 - 1)] 80)).drew).cell? ((⟨wr.heap.size + 1, 0, none⟩ : Addr).add j) = some u := by
          intro j u hj
          have := six_newF (wr.alloc (.cells #[.int .i64 t.x, .int .i64 t.y, .int .i64 t.lo, .int .i64 t.hi, .int .i64 t.fr, .int .i64 t.by_, .bool t.ho] 44)) ⟨t.x, t.y, t.lo, t.hi, in1, out1 - 1⟩ 80 j u hj
          rw [World.size_alloc] at this
          exact this
        have hvb := owns_lt hT.own
        have hNw := hT.lt
        go_region_held3 (fun w' => w'.cell? ⟨wr.heap.size, 0, none⟩ = some (.int .i64 t.x) ∧ w'.cell? ⟨wr.heap.size, 1, none⟩ = some (.int .i64 t.y) ∧ w'.cell? ⟨wr.heap.size, 2, none⟩ = some (.int .i64 t.lo) ∧ w'.cell? ⟨wr.heap.size, 3, none⟩ = some (.int .i64 t.hi) ∧ w'.cell? ⟨g, k * 2, none⟩ = some (.int .i64 in1))
          (simp [go_sem, World.cell?_alloc_lt, *])
          (first
            | (refine wp_append_own _ (.tmp 31) (.tmp 47) 37 rfl N 80 i0 (.agg #[.int .i64 0, .int .i64 0, .int .i64 0, .int .i64 0, .int .i64 0, .int .i64 0]) 6 48 Tryz.underlying37 hi hz0 hz1 hz2 rfl (by decide) u5 _ _ rfl T3.own ⟨wr.heap.size + 1, 0, none⟩ 1 1 (Bx.cells ⟨t.x, t.y, t.lo, t.hi, in1, out1 - 1⟩) rfl rfl hnw (by simp [Value.oneCell']) (by unfold maxLen; omega) (by omega) (by simp; omega) ?_; intro v7 w7 hown7 hgrow7 hnil7; have e0 : ∀ j, w7.cell? ⟨wr.heap.size, j, none⟩ = _ := (fun j => World.cell?_of_block (a := ⟨wr.heap.size, j, none⟩) (hgrow7.block wr.heap.size (by simp; omega) (fun e => by have := hvb _ e.symm; omega))); have e1 : ∀ j, w7.cell? ⟨g, j, none⟩ = _ := (fun j => World.cell?_of_block (a := ⟨g, j, none⟩) (hgrow7.block g (by simp; omega) (fun e => by have := hT.spN g rfl; have := owns_base hT.own _ e.symm; omega)))))
        go_wp2
        go_roundw
        case rel => exact ⟨k + 1, by omega, by go_num, by rw [HB.out]; exact T3.push hN hgrow7 hown7⟩
        case measure => simp [intOf]; omega
      · obtain rfl : k = l.length := by omega
        go_wp2
        go_ret
        obtain ⟨av, cv, rfl⟩ : ∃ a c, u5 = .slice a (tubeTo F l l.length).length c := by
          rcases hT.own.2 with ⟨rfl, h0⟩ | ⟨g, cap, cur, rfl, _⟩
          · exact ⟨none, 0, by rw [h0]⟩
          · exact ⟨_, _, rfl⟩
        refine ⟨_, rfl, ?_, hT.old⟩
        rw [G.out]
        exact ⟨hT.own.1, hT.own.2.imp id fun ⟨g, cap, cur, h1, h2, h3⟩ => ⟨g, cap, cur, h1, Nat.le_trans hN h2, h3⟩⟩
end Go.Proofs.YtijcdikekgmfoaaGreatDoor

namespace Go.Proofs.YtijcdikekgmfoaaGreatDoor
open Go.RowKit

theorem boxes_owned {w : World} {base : Nat} {e : TypeId} {v : Value} {m : List Bx} (h : w.ownsRow base e 6 v m.length (rowC m)) : ∃ a g cap, v = .slice a m.length cap ∧ BoxesAt w a g 0 m := by
  rcases h.2 with ⟨rfl, h0⟩ | ⟨g, cap, cur, rfl, hg, hh, hn, hc, hs, ht⟩
  · have : m = [] := List.length_eq_zero_iff.1 h0
    subst this
    exact ⟨none, 0, 0, rfl, ⟨fun h => absurd rfl h, fun h => absurd rfl h, fun i s hi => by simp at hi⟩⟩
  · refine ⟨some ⟨g, 0, none⟩, g, cap, rfl, ⟨fun _ => rfl, fun _ => lt_of_block hh, fun i s hi j u hu => ?_⟩⟩
    have h1 := rowC_get m i s hi j u hu
    rw [← ht] at h1
    rw [Nat.zero_add, cell_of_row w g (i * 6 + j) cur _ _ hh]
    rw [List.getElem?_take] at h1
    split at h1
    · simpa using h1
    · cases h1

theorem path_some {q s fr b : Int} {l : List Stp} (h : pathB q s fr b l = true) : 1 ≤ l.length := by
  have := path_len h
  omega
theorem fly_some {q s fr b : Int} {l : List Stp} (h : flyB q s fr b l = true) {k : Nat} (_hk : k ≤ l.length) : (spanAt q s fr b l l.length k).1 ≤ (spanAt q s fr b l l.length k).2 := by
  have hs := (Bool.and_eq_true_iff.1 h).2
  unfold spanB at hs
  have h3 := (Bool.and_eq_true_iff.1 hs).2
  simp only [bwdTo, List.all_eq_true, List.mem_range, someB, decide_eq_true_eq] at h3
  exact h3 _ (by omega)

theorem tube_get {q s fr b : Int} {l : List Stp} (h : flyB q s fr b l = true) {k : Nat} (hk : k < l.length) :
    (tubeL q s fr b l)[k]? = some ⟨(l.getD k .zero).x, (l.getD k .zero).y, (l.getD k .zero).lo, (l.getD k .zero).hi, (spanAt q s fr b l l.length k).1, (spanAt q s fr b l l.length (k + 1)).2 - 1⟩ := by
  have htl : tubeL q s fr b l = tubeTo (flyL q s fr b l) l l.length := by unfold tubeL; rw [h]; rfl
  have e1 := map_at h (show k ≤ l.length by omega)
  have e2 := map_at h (show k + 1 ≤ l.length by omega)
  rw [htl]
  unfold tubeTo
  rw [List.getElem?_map, List.getElem?_range hk]
  simp only [Option.map_some, tubeAt, List.getD_eq_getElem?_getD, e1, e2, Option.getD_some]
end Go.Proofs.YtijcdikekgmfoaaGreatDoor

namespace Go.Proofs.YtijcdikekgmfoaaGreatDoor
open Go.RowKit

/-- A tick of a flight is in one of its steps. -/
theorem place_at (z : Nat → Int) (t : Int) : ∀ (n : Nat), z 0 ≤ t → t < z n → (∀ i j, i ≤ j → j ≤ n → z i ≤ z j) → ∃ k, k < n ∧ z k ≤ t ∧ t < z (k + 1) ∧ ∀ j, j < k → z (j + 1) ≤ t
  | 0, h0, h1, _ => by omega
  | n + 1, h0, h1, hm => by
    by_cases h : t < z n
    · obtain ⟨k, h2, h3, h4, h5⟩ := place_at z t n h0 h (fun i j hi hj => hm i j hi (by omega))
      exact ⟨k, by omega, h3, h4, h5⟩
    · exact ⟨n, by omega, by omega, h1, fun j hj => by have := hm (j + 1) n (by omega) (by omega); omega⟩

theorem getD_drop (zs : List Int) (k j : Nat) : (zs.drop k).getD j 0 = zs.getD (k + j) 0 := by
  rw [List.getD_eq_getElem?_getD, List.getD_eq_getElem?_getD, List.getElem?_drop]

section
variable {q s fr b : Int} {l : List Stp} {Z : List Int}
theorem law_path (h : lawB q s fr b l Z = true) : pathB q s fr b l = true := by unfold lawB at h; simp only [Bool.and_eq_true] at h; exact h.1.1
theorem law_fly (h : lawB q s fr b l Z = true) : flyB q s fr b l = true := by
  cases hf : flyB q s fr b l with
  | true => rfl
  | false => rw [no_flight hf] at h; cases h
theorem path_quick (hp : pathB q s fr b l = true) : 1 ≤ q := by
  have h := hp
  unfold pathB kindB at h
  simp only [Bool.and_eq_true, inB_iff, decide_eq_true_eq] at h
  obtain ⟨⟨⟨⟨h1, _⟩, _⟩, _⟩, _⟩ := h
  omega

/-- Where a flight is at a tick. -/
theorem top_place (h : lawB q s fr b l Z = true) {t : Int} (h0 : Z.getD 0 0 ≤ t) (h1 : t < Z.getD l.length 0) : ∃ k, k < l.length ∧ Z.getD k 0 ≤ t ∧ t < Z.getD (k + 1) 0 ∧ ∀ j, j < k → Z.getD (j + 1) 0 ≤ t := by
  have hp := law_path h
  have hk := ((lawB_keeps hp Z).1 h).2
  refine place_at (fun k => Z.getD k 0) t l.length h0 h1 (fun i j hi hj => ?_)
  have := keeps_mono (path_quick hp) hk (j - i) i (by omega)
  rwa [show i + (j - i) = j by omega] at this
theorem top_range (h : lawB q s fr b l Z = true) {k : Nat} (hk : k ≤ l.length) : 0 ≤ Z.getD k 0 ∧ Z.getD k 0 ≤ 10000 := by
  have hp := law_path h
  have hz := ((lawB_keeps hp Z).1 h).2.1 k (by omega) hk
  have hb := bounds_ok hp k
  exact ⟨Int.le_trans hb.1 hz.1, Int.le_trans hz.2 hb.2⟩

/-- It is in the tube, on each level of the step. -/
theorem top_within (h : lawB q s fr b l Z = true) {k : Nat} (hk : k < l.length) {t lev : Int} (h1 : Z.getD k 0 ≤ t) (h2 : t < Z.getD (k + 1) 0) (hl : (l.getD k .zero).lo ≤ lev) (hh : lev ≤ (l.getD k .zero).hi) : withinB (tubeL q s fr b l) (l.getD k .zero).x (l.getD k .zero).y lev t = true := by
  have hf := law_fly h
  have ha : allowB q s fr b l Z = true := by rw [allow_law (law_path h)]; exact h
  have b1 := between hf ha (k := k) (by omega)
  have b2 := between hf ha (k := k + 1) (by omega)
  unfold withinB
  rw [List.any_eq_true]
  refine ⟨_, List.mem_of_getElem? (tube_get hf hk), ?_⟩
  unfold hasB
  simp only [Bool.and_eq_true, inB_iff, beq_self_eq_true, true_and]
  omega

/-- A flight of what is left. -/
theorem left_flight (h : lawB q s fr b l Z = true) {k : Nat} (hk : k < l.length) {t x y : Int} (h2 : t < Z.getD (k + 1) 0) (hx : x ≤ Z.getD k 0) (hy : Z.getD k 0 ≤ y) : Keeps q s (leftFr fr l k t) b (leftL l k x y t) (fun j => (Z.drop k).getD j 0) 0 (l.length - k) := by
  have hz := ((lawB_keeps (law_path h) Z).1 h).2
  refine (left_keeps hk x y t _).2 ⟨?_, ?_, fun j hj hj' => ?_, fun j hj => ?_⟩
  · simp only [getD_drop, Nat.add_zero]; exact ⟨hx, hy⟩
  · simp only [getD_drop]; omega
  · simp only [getD_drop]; exact hz.1 (k + j) (by omega) (by omega)
  · simp only [getD_drop]; exact hz.2 (k + j) (by omega) (by omega)
theorem left_law (h : lawB q s fr b l Z = true) {k : Nat} (hk : k < l.length) {t x y : Int} (hx0 : 0 ≤ x) (hy0 : y ≤ 10000) (ht : 0 ≤ t) (h2 : t < Z.getD (k + 1) 0) (hx : x ≤ Z.getD k 0) (hy : Z.getD k 0 ≤ y) :
    spanB q s (leftFr fr l k t) b (leftL l k x y t) = true ∧ lawB q s (leftFr fr l k t) b (leftL l k x y t) (Z.drop k) = true := by
  have hp := law_path h
  have hz := left_flight h hk h2 hx hy
  have hs : spanB q s (leftFr fr l k t) b (leftL l k x y t) = true := (left_fly hp hk hx0 hy0 ht).2 ⟨_, hz⟩
  have hpl := left_path hp hk hx0 hy0 ht hs
  refine ⟨hs, (lawB_keeps hpl _).2 ⟨?_, ?_⟩⟩
  · rw [List.length_drop, leftL_length, lawB_length h]; omega
  · rw [leftL_length]; exact hz

/-- A tube within the rest of another one. -/
theorem small_drop {q s fr b q' s' fr' b' : Int} {m l : List Stp} {k : Nat} (hm : flyB q s fr b m = true) (hl : flyB q' s' fr' b' l = true) (hk : m.length + k ≤ l.length)
    (hg : ∀ j, j < m.length → (m.getD j .zero).x = (l.getD (k + j) .zero).x ∧ (m.getD j .zero).y = (l.getD (k + j) .zero).y ∧ (m.getD j .zero).lo = (l.getD (k + j) .zero).lo ∧ (m.getD j .zero).hi = (l.getD (k + j) .zero).hi)
    (hz : ∀ j, j ≤ m.length → ∀ t, inP t (spanAt q s fr b m m.length j) → inP t (spanAt q' s' fr' b' l l.length (k + j))) : smallB (tubeL q s fr b m) ((tubeL q' s' fr' b' l).drop k) = true := by
  obtain ⟨p1, p2, _⟩ := flyL_at hm
  unfold smallB
  rw [List.all_eq_true]
  intro a ha
  rw [Bool.or_eq_true]
  right
  unfold tubeL at ha
  rw [if_pos hm] at ha
  obtain ⟨j, hj, rfl⟩ := List.mem_map.1 ha
  rw [List.mem_range] at hj
  rw [List.any_eq_true]
  refine ⟨tubeAt (flyL q' s' fr' b' l) l (k + j), ?_, ?_⟩
  · refine List.mem_of_getElem? (i := j) ?_
    rw [List.getElem?_drop]
    unfold tubeL
    rw [if_pos hl]
    unfold tubeTo
    rw [List.getElem?_map, List.getElem?_range (by omega)]
    rfl
  · obtain ⟨g1, g2, g3, g4⟩ := hg j hj
    have gd : ∀ {q s fr b : Int} {l : List Stp}, flyB q s fr b l = true → ∀ i, i ≤ l.length → (flyL q s fr b l).getD i (0, 0) = spanAt q s fr b l l.length i := fun h i hi => by
      rw [List.getD_eq_getElem?_getD, map_at h hi]; rfl
    have n1 := span_some (fun k => most_quick p1 k) p2 (k := j)
    have n2 := span_some (fun k => most_quick p1 k) p2 (k := j + 1)
    have z1 := (hz j (by omega) _ (show inP (spanAt q s fr b m m.length j).1 _ from ⟨Int.le_refl _, n1⟩)).1
    have z2 := (hz (j + 1) (by omega) _ (show inP (spanAt q s fr b m m.length (j + 1)).2 _ from ⟨n2, Int.le_refl _⟩)).2
    unfold coverB tubeAt
    simp only [gd hm j (by omega), gd hm (j + 1) (by omega), gd hl (k + j) (by omega), show k + j + 1 = k + (j + 1) by omega, gd hl (k + (j + 1)) (by omega), g1, g2, g3, g4, Bool.and_eq_true, beq_iff_eq, decide_eq_true_eq]
    exact ⟨⟨⟨⟨⟨trivial, trivial⟩, Int.le_refl _⟩, Int.le_refl _⟩, z1⟩, by omega⟩

/-- What is left at a tick of a flight: for it, and for anybody; it goes on along both; the tubes lie within one another. -/
theorem top_left (h : lawB q s fr b l Z = true) {k : Nat} (hk : k < l.length) {t : Int} (h1 : Z.getD k 0 ≤ t) (h2 : t < Z.getD (k + 1) 0) (A C : Ans) (hA : A = restA q s fr b l (k : Int) (Z.getD k 0) t) (hC : C = seenA q s fr b l (k : Int) t) :
    (A.ok = true ∧ lawB A.q A.s A.fr A.b A.l (Z.drop k) = true) ∧ (C.ok = true ∧ lawB C.q C.s C.fr C.b C.l (Z.drop k) = true) ∧
    smallB (tubeL A.q A.s A.fr A.b A.l) (tubeL C.q C.s C.fr C.b C.l) = true ∧ smallB (tubeL C.q C.s C.fr C.b C.l) ((tubeL q s fr b l).drop k) = true := by
  have hp := law_path h
  have hf := law_fly h
  have hpf := (flyL_at hf).2.1
  have hsb : spanB q s fr b l = true := by unfold flyB at hf; rw [Bool.and_eq_true] at hf; exact hf.2
  have r0 := top_range h (k := k) (by omega)
  have r1 := top_range h (k := k + 1) (by omega)
  have ha : allowB q s fr b l Z = true := by rw [allow_law hp]; exact h
  have bw := between hf ha (k := k) (by omega)
  obtain ⟨w1, w2, w3, w4⟩ := stepwin hp hk
  have hz := ((lawB_keeps hp Z).1 h).2.1 k (by omega) (by omega)
  rw [w1, w2] at hz
  have hz' : (l.getD k .zero).fr ≤ Z.getD k 0 ∧ Z.getD k 0 ≤ (l.getD k .zero).by_ := hz
  have ex : mxB (l.getD k .zero).fr (Z.getD k 0) = Z.getD k 0 := by have := mxB_le (l.getD k .zero).fr (Z.getD k 0); omega
  have ey : mnB (l.getD k .zero).by_ (Z.getD k 0) = Z.getD k 0 := by have := mnB_le (l.getD k .zero).by_ (Z.getD k 0); omega
  have hkt : (k : Int).toNat = k := by omega
  obtain ⟨sA, lA⟩ := left_law h hk (x := Z.getD k 0) (y := Z.getD k 0) r0.1 r0.2 (by omega) h2 (Int.le_refl _) (Int.le_refl _)
  have eA : restA q s fr b l (k : Int) (Z.getD k 0) t = { q := q, s := s, fr := leftFr fr l k t, b := b, l := leftL l k (Z.getD k 0) (Z.getD k 0) t, ok := true } := by
    unfold restA
    rw [if_pos (by simp only [inStepB, Bool.and_eq_true, inB_iff]; exact ⟨⟨⟨hp, by omega⟩, by omega⟩, by omega⟩), hkt, ex, ey]
    unfold canA
    rw [if_pos sA]
  have e0 : spanOf q s fr b l k = spanAt q s fr b l l.length k := rfl
  have x0 : 0 ≤ (spanAt q s fr b l l.length k).1 := span_lo hp hsb (by omega)
  have m2 := mnB_le (spanAt q s fr b l l.length k).2 t
  have m3 : Z.getD k 0 ≤ mnB (spanAt q s fr b l l.length k).2 t := by omega
  have m4 : mnB (spanAt q s fr b l l.length k).2 t ≤ 10000 := by omega
  obtain ⟨sC, lC⟩ := left_law h hk (x := (spanAt q s fr b l l.length k).1) (y := mnB (spanAt q s fr b l l.length k).2 t) x0 m4 (by omega) h2 bw.1 m3
  have eC : seenA q s fr b l (k : Int) t = { q := q, s := s, fr := leftFr fr l k t, b := b, l := leftL l k (spanAt q s fr b l l.length k).1 (mnB (spanAt q s fr b l l.length k).2 t) t, ok := true } := by
    unfold seenA
    rw [if_pos (by simp only [inStepB, Bool.and_eq_true, inB_iff]; exact ⟨⟨⟨hp, by omega⟩, by omega⟩, hsb⟩), hkt, e0]
    unfold canA
    rw [if_pos sC]
  have hok : (seenA q s fr b l (k : Int) t).ok = true := by rw [eC]
  obtain ⟨hfC, hall, _⟩ := seen_all hok
  subst hA hC
  refine ⟨⟨by rw [eA], by rw [eA]; exact lA⟩, ⟨hok, by rw [eC]; exact lC⟩, ?_, ?_⟩
  · refine (hall (Z.getD k 0) ?_).2
    have hqC := flyL_at hfC
    refine (span_iff (fun i => most_quick hqC.1 i) hqC.2.1 (k := 0) (by omega) _).2 ⟨fun j => (Z.drop k).getD j 0, ?_, by simp only [getD_drop, Nat.add_zero]⟩
    have hlC : lawB (seenA q s fr b l (k : Int) t).q (seenA q s fr b l (k : Int) t).s (seenA q s fr b l (k : Int) t).fr (seenA q s fr b l (k : Int) t).b (seenA q s fr b l (k : Int) t).l (Z.drop k) = true := by rw [eC]; exact lC
    exact ((lawB_keeps hqC.1 _).1 hlC).2
  · rw [eC] at hfC ⊢
    dsimp only at hfC ⊢
    have hlen := leftL_length l k (spanAt q s fr b l l.length k).1 (mnB (spanAt q s fr b l l.length k).2 t) t
    have hqm : ∀ i, q ≤ mostB s l i := fun i => most_quick hp i
    obtain ⟨p1, p2, _⟩ := flyL_at hfC
    have hqm' : ∀ i, q ≤ mostB s (leftL l k (spanAt q s fr b l l.length k).1 (mnB (spanAt q s fr b l l.length k).2 t) t) i := fun i => most_quick p1 i
    refine small_drop (k := k) hfC hf (by omega) (fun j hj => ?_) (fun j hj u hu => ?_)
    · exact leftL_same (l := l) (k := k) _ _ t (j := j) (by omega)
    · obtain ⟨y, hy, rfl⟩ := (span_iff hqm' p2 (k := j) (by omega) u).1 hu
      rw [hlen] at hy
      have hy' := (left_keeps hk _ _ t y).1 hy
      have hin : inP (y 0) (spanAt q s fr b l l.length k) := ⟨by omega, by omega⟩
      obtain ⟨x, hx, hxk⟩ := (span_iff hqm hpf (k := k) (by omega) _).1 hin
      refine (span_iff hqm hpf (k := k + j) (by omega) _).2 ⟨fun i => if i ≤ k then x i else y (i - k), ⟨fun i _ hi => ?_, fun i _ hi => ?_⟩, ?_⟩
      all_goals dsimp only
      · by_cases hik : i ≤ k
        · rw [if_pos hik]; exact hx.1 i (by omega) hi
        · rw [if_neg hik]
          have := hy'.2.2.1 (i - k) (by omega) (by omega)
          rwa [show k + (i - k) = i by omega] at this
      · by_cases hik : i ≤ k
        · by_cases hik1 : i + 1 ≤ k
          · rw [if_pos hik, if_pos hik1]; exact hx.2 i (by omega) hi
          · obtain rfl : i = k := by omega
            rw [if_pos (Nat.le_refl _), if_neg (by omega), hxk]
            have := hy'.2.2.2 0 (by omega)
            rwa [show i + 1 - i = 0 + 1 by omega, show i = i + 0 by omega]
        · rw [if_neg hik, if_neg (by omega)]
          have := hy'.2.2.2 (i - k) (by omega)
          rwa [show k + (i - k) = i by omega, show i - k + 1 = i + 1 - k by omega] at this
      · by_cases hj0 : j = 0
        · subst hj0; rw [if_pos (by omega)]; rw [Nat.add_zero]; exact hxk
        · rw [if_neg (by omega)]; rw [show k + j - k = j by omega]
theorem tickA_in {x : Int × Int} (h : x.1 ≤ x.2) (m : List Int) : inP (tickA x m) x := by
  cases m with
  | nil => exact ⟨Int.le_refl _, h⟩
  | cons z m =>
    show inP (clampB x z) x
    unfold clampB inP mnB mxB
    split <;> split <;> omega
theorem goAt_begA (hp : pathB q s fr b l = true) (hsp : spanB q s fr b l = true) (asks : List Int) : ∀ i, i ≤ l.length + 1 → Beg q s fr b l (goAt q s fr b l [] asks i)
  | 0, _ => fun k hk => by simp [goAt] at hk
  | i + 1, hi => by
    have h1 := goAt_begA hp hsp asks i (by omega)
    have hl : (goAt q s fr b l [] asks i).length ≤ l.length := by rw [goAt_length]; simp; omega
    have hg := goB_of hp hsp hl h1
    have hw := Wide.of hp
    rw [goAt]
    refine beg_snoc h1 ?_
    unfold goS
    rw [if_pos hg]
    refine tickA_in ?_ _
    rw [hw.span_fwd] at hsp
    exact open_some hw.quick hsp _ hl h1
/-- Where there is a flight at all, whatever is asked is flown to its end. -/
theorem fly_flown (h : flyB q s fr b l = true) (asks : List Int) : flownB q s fr b l [] asks = true := by
  unfold flyB at h
  obtain ⟨hp, hsp⟩ := Bool.and_eq_true_iff.1 h
  have hF : goF q s fr b l [] asks = goAt q s fr b l [] asks (l.length + 1) := by
    refine goF_is (goB_long (by rw [goAt_length]; simp)) fun j hj => ?_
    exact goB_of hp hsp (by rw [goAt_length]; simp; omega) (goAt_begA hp hsp asks j (by omega))
  unfold flownB
  rw [hF]
  have hb := goAt_begA hp hsp asks (l.length + 1) (Nat.le_refl _)
  have hlen : (goAt q s fr b l [] asks (l.length + 1)).length = l.length + 1 := by rw [goAt_length]; simp
  generalize goAt q s fr b l [] asks (l.length + 1) = f at *
  rw [lawB_keeps hp]
  refine ⟨hlen, ?_⟩
  have hw := Wide.of hp
  rw [hw.span_fwd] at hsp
  obtain ⟨z, hz, h1, h2⟩ := (begun_iff hw.quick hsp (fun i => f.getD i 0) (Nat.le_refl l.length) (f.getD l.length 0)).1 ⟨fun k hk => hb k (by omega), hb l.length (by omega)⟩
  refine keeps_congr hz fun k hk => ?_
  by_cases e : k = l.length
  · subst e; exact h2.symm
  · exact (h1 k (by omega)).symm
theorem flown_none {asks : List Int} (h : flownB q s fr b l [] asks = false) : flyB q s fr b l = false := by
  cases hf : flyB q s fr b l with
  | false => rfl
  | true => rw [fly_flown hf] at h; cases h
theorem tube_none (h : flyB q s fr b l = false) : tubeL q s fr b l = [] := by unfold tubeL; rw [h]; rfl
theorem flown_law {asks : List Int} (h : flownB q s fr b l [] asks = true) : lawB q s fr b l (flownL q s fr b l [] asks) = true := by unfold flownL; rw [h]; exact h
end
end Go.Proofs.YtijcdikekgmfoaaGreatDoor

namespace Go.Proofs.YtijcdikekgmfoaaGreatDoor
open Go.RowKit

structure SnD (w wr : World) (B : Nat) (R : Rdr) (p X : Nat) (q s fr b : Int) (a : Option Addr) (b0 o cap : Nat) (l : List Stp) : Prop where
  rd : RdW w wr B R p
  res : PathAt wr w.heap.size 0 0 0 0 (.slice none 0 0)
  pa : PathAt wr X q s fr b (.slice a l.length cap)
  ge : w.heap.size < X
  st : StepsIn wr a b0 o l
  b0g : l ≠ [] → w.heap.size < b0
/-- What is drawn. -/
def SeenPost (w : World) (B : Nat) (R : Rdr) (e : Ending) (w' : World) : Prop :=
  ∃ q s fr b a b0 o cap l k en t, e = .returned (.tuple #[.agg #[.int .i64 q, .int .i64 s, .slice a l.length cap, .int .i64 fr, .int .i64 b], .int .i64 k, .int .i64 en, .int .i64 t]) ∧ l.length ≤ 41 ∧ l.length ≤ cap ∧ StepsAt w' a b0 o l ∧ (l ≠ [] → w.heap.size < b0) ∧ w.grownBy w' (some B) ∧ 0 ≤ t ∧ ∃ p', p' ≤ 6500 ∧ RdAt w' B R p'
section
variable {w wr w' : World} {B : Nat} {R : Rdr} {p p' X : Nat} {q s fr b : Int} {a : Option Addr} {b0 o cap : Nat} {l : List Stp}
theorem SnD.more (h : SnD w wr B R p X q s fr b a b0 o cap l) (hr : RdAt w' B R p') (hg : wr.grownBy w' (some B)) : SnD w w' B R p' X q s fr b a b0 o cap l := by
  have h1 := h.rd.lt
  have h2 := h.ge
  exact ⟨h.rd.more hr hg, h.res.grown hg (by simp; omega), h.pa.grown hg (by simp; omega), h.ge, h.st.grown hg (fun hl e => by have := h.b0g hl; cases e; omega), h.b0g⟩
theorem SnD.below (h : SnD w wr B R p X q s fr b a b0 o cap l) (hb : Below wr.heap.size wr w') : SnD w w' B R p X q s fr b a b0 o cap l :=
  ⟨h.rd.below hb, h.res.keep hb h.res.lt, h.pa.keep hb h.pa.lt, h.ge, h.st.below hb, h.b0g⟩
theorem SnD.drew (h : SnD w wr B R p X q s fr b a b0 o cap l) : SnD w wr.drew B R p X q s fr b a b0 o cap l := h.below (Below.refl _ _).drew
theorem SnD.alloc (h : SnD w wr B R p X q s fr b a b0 o cap l) (ob : Obj) : SnD w (wr.alloc ob) B R p X q s fr b a b0 o cap l := h.below ((Below.refl _ _).alloc (Nat.le_refl _) ob)
theorem SnD.post (h : SnD w wr B R p X q s fr b a b0 o cap l) (hc : l.length ≤ cap) (hl : l.length ≤ 41) (hp : p ≤ 6500) {t : Int} (ht : 0 ≤ t) (k en t' : Int) (htt : t' = t := by rfl) : SeenPost w B R (.returned (.tuple #[.agg #[.int .i64 q, .int .i64 s, .slice a l.length cap, .int .i64 fr, .int .i64 b], .int .i64 k, .int .i64 en, .int .i64 t'])) (((((wr.setCell ⟨w.heap.size, 0, none⟩ (.int .i64 q)).setCell ⟨w.heap.size, 1, none⟩ (.int .i64 s)).setCell ⟨w.heap.size, 2, none⟩ (.slice a l.length cap)).setCell ⟨w.heap.size, 3, none⟩ (.int .i64 fr)).setCell ⟨w.heap.size, 4, none⟩ (.int .i64 b)) := by
  subst htt
  have R5 : RdW w (((((wr.setCell ⟨w.heap.size, 0, none⟩ (.int .i64 q)).setCell ⟨w.heap.size, 1, none⟩ (.int .i64 s)).setCell ⟨w.heap.size, 2, none⟩ (.slice a l.length cap)).setCell ⟨w.heap.size, 3, none⟩ (.int .i64 fr)).setCell ⟨w.heap.size, 4, none⟩ (.int .i64 b)) B R p := by
    iterate 5 (refine RdW.set ?_ (Nat.le_refl _) _ _)
    exact h.rd
  refine ⟨q, s, fr, b, a, b0, o, cap, l, k, en, t', rfl, hl, hc, ?_, h.b0g, R5.gr, ht, p, hp, R5.rd⟩
  iterate 5 (refine StepsAt.grown ?_ (grown_set _ _ _) (fun hl e => by have h1 := h.b0g hl; have h2 : w.heap.size = b0 := (by simpa using e); omega))
  exact h.st.st
end
theorem pickV_nn {R : Rdr} {p : Nat} {n : Int} (hr : ∀ (i : Nat) (z : Int), R.bs[i]? = some z → 0 ≤ z ∧ z < 256) (hp : p ≤ 1000000000) : 0 ≤ pickV R p n ∧ (pickV R p n < n ∨ pickV R p n = 0) := by
  by_cases hn : n < 1
  · have e : pickV R p n = 0 := by unfold pickV; rw [if_pos hn]
    rw [e]; exact ⟨by omega, .inr rfl⟩
  · have := pickV_range hr hp (n := n) (by omega)
    exact ⟨this.1, .inl this.2⟩
theorem sn_tick {z0 z1 m : Int} (h : (0 ≤ z0 ∧ z0 ≤ 10000) ∧ 0 ≤ z1 ∧ z1 ≤ 10000) (hm : 0 ≤ m ∧ (m < IntKind.i64.wrap (z1 - z0) ∨ m = 0)) : 0 ≤ IntKind.i64.wrap (z0 + m) ∧ IntKind.i64.wrap (z0 + m) ≤ 20000 := by
  rw [IntKind.wrap_i64] at hm ⊢
  omega
theorem sn_late {t m : Int} (h : 0 ≤ t ∧ t ≤ 20000) (hm : 0 ≤ m ∧ (m < 9 ∨ m = 0)) : 0 ≤ wrap64 (t + m) ∧ wrap64 (t + m) ≤ 30000 := by
  unfold wrap64
  omega

set_option maxRecDepth 20000 in
set_option maxHeartbeats 8000000 in
theorem seen_draw (B : Nat) (R : Rdr) (p : Nat) (w : World) (h : RdAt w B R p) (hp : p ≤ 1000) : Calls Tryz.prog 67 #[.pointer (some ⟨B, 0, none⟩)] w (SeenPost w B R) := by
  have hB := lt_of_block h.blk
  have R0 := (RdW.refl h).alloc (.cells #[.int .i64 0, .int .i64 0, .slice none 0 0, .int .i64 0, .int .i64 0] 27)
  have P0 := PathAt.new w 0 0 0 0 (.slice none 0 0)
  go_enter Tryz.func67, Tryz.ntmps67
  go_wp2_with fail
  refine (any_drawC B R p _ R0.rd (by omega)).mono ?_
  rintro e w2 ⟨q, s, fr, b, a, b0, o, cap, l, p2, rfl, hlen, hs2, hb0, hp2, R2', hcap⟩
  have R2 := R0.more R2'.rd R2'.gr
  have P2 := P0.grown R2'.gr (by simp; omega)
  have z2 := P2.lt
  have D3 : SnD w (w2.alloc (.cells #[.int .i64 q, .int .i64 s, .slice a l.length cap, .int .i64 fr, .int .i64 b] 27)) B R p2 w2.heap.size q s fr b a b0 o cap l :=
    ⟨R2.alloc _, P2.keep ((Below.refl _ _).alloc (Nat.le_refl _) _) P2.lt, PathAt.new w2 q s fr b _, z2, hs2.alloc _, fun h => by have := hb0 h; rw [World.size_alloc] at this; omega⟩
  clear R0 P0 R2' R2 P2 hs2 hb0 z2
  go_wp2
  generalize (w2.alloc (.cells #[.int .i64 q, .int .i64 s, .slice a l.length cap, .int .i64 fr, .int .i64 b] 27)) = w3 at *
  generalize w2.heap.size = X at *
  obtain ⟨⟨e0, e1, e2, e3, e4⟩, ef⟩ := D3.pa.cells
  have hXl := D3.pa.lt
  have hp2' : p2 ≤ 6300 := by omega
  go_cut [7, 8] (fun s7 s8 wc => ∃ (v : Value) (az : List Int) (p' : Nat), s7 = v ∧ s8 = .bool (flownB q s fr b l [] az) ∧ wc.ownsRow (w.heap.size + 1) 3 1 v (flownL q s fr b l [] az).length (intCells (flownL q s fr b l [] az)) ∧ p' ≤ 6400 ∧ SnD w wc B R p' X q s fr b a b0 o cap l)
  case first =>
    go_region_held3 (fun w' => w'.cell? ⟨X, 0, none⟩ = some (.int .i64 q) ∧ w'.cell? ⟨X, 1, none⟩ = some (.int .i64 s) ∧ w'.cell? ⟨X, 2, none⟩ = some (.slice a l.length cap) ∧ w'.cell? ⟨X, 3, none⟩ = some (.int .i64 fr) ∧ w'.cell? ⟨X, 4, none⟩ = some (.int .i64 b))
      (simp [go_sem, World.cell?_alloc_lt, *])
      (first
        | (go_at_call 35; refine (asked_draw B R p2 q s fr b a b0 o cap l _ ?_ (by omega) hlen ?_).mono ?_; (first | exact D3.drew.rd.rd | exact (D3.alloc _).drew.rd.rd | exact (D3.drew.alloc _).rd.rd); (first | exact D3.drew.st.st | exact (D3.alloc _).drew.st.st | exact (D3.drew.alloc _).st.st); rintro e w4 ⟨v4, az, p4, rfl, hal, ho4, hp4, R4⟩; have D4 : SnD w w4 B R p4 X q s fr b a b0 o cap l := (by first | exact D3.drew.more R4.rd R4.gr | exact (D3.alloc _).drew.more R4.rd R4.gr | exact (D3.drew.alloc _).more R4.rd R4.gr); obtain ⟨⟨e0', e1', e2', e3', e4'⟩, ef'⟩ := D4.pa.cells; have hX4 := D4.pa.lt; obtain ⟨d, dg, dcap, rfl, hIa, _⟩ := ints_owned ho4)
        | (go_at_call 8; refine (flyGoS_any q s fr b a b0 o cap l _ 0 0 [] d dg 0 dcap az _ (by omega) (by simp) (by omega) ?_ ⟨fun h => absurd rfl h, fun h => absurd rfl h, fun i z hi => by simp at hi⟩ ?_).mono ?_; (first | exact D4.st.st | exact D4.drew.st.st | exact (D4.alloc _).st.st); (first | exact hIa | exact hIa.alloc _); rintro e w5 ⟨v5, rfl, ho5, hb5⟩; have D5 : SnD w w5 B R p4 X q s fr b a b0 o cap l := (by first | exact D4.below hb5 | exact D4.drew.below hb5 | exact (D4.alloc _).below hb5); obtain ⟨⟨e0'', e1'', e2'', e3'', e4''⟩, ef''⟩ := D5.pa.cells))
    all_goals
      go_wp2
      go_meet
      case rel =>
        have hbs := D4.res.lt
        refine ⟨v5, az, p4, rfl, rfl, ?_, by omega, D5⟩
        exact ⟨ho5.1, ho5.2.imp id fun ⟨g, cap, cur, h1, h2, h3⟩ => ⟨g, cap, cur, h1, by first | omega | (simp at h2; omega), h3⟩⟩
  case rest =>
    obtain ⟨v, az, p3, hv, hok, ho3, hp3, D4⟩ := hcut
    clear D3 e0 e1 e2 e3 e4 ef hXl
    subst hv hok
    cases hf : flownB q s fr b l [] az with
    | false =>
      clear ho3
      go_wp2
      refine wp_region_any (by kernel_rfl) ?_
      change wpAny _ _ _ _ _ _ _ (World.drew _)
      have D5 := D4.drew
      refine wpAny_take (i := 1) (v := .pointer (some ⟨B, 0, none⟩)) rfl (by kernel_rfl) (by kernel_rfl) (by kernel_rfl) (fun _ _ _ h => h) (Or.inl ⟨by rfl, fun W => by go_simp⟩) ?_
      refine wpAny_take (i := 4) (v := .pointer (some ⟨B, 0, none⟩)) rfl (by kernel_rfl) (by kernel_rfl) (by kernel_rfl) (fun _ _ _ h => h) (Or.inl ⟨by rfl, fun W => by go_simp⟩) ?_
      refine wpAny_take (i := 6) (v := .pointer (some ⟨B, 0, none⟩)) rfl (by kernel_rfl) (by kernel_rfl) (by kernel_rfl) (fun _ _ _ h => h) (Or.inl ⟨by rfl, fun W => by go_simp⟩) ?_
      refine wpAny_ready (rs := [0, 2]) (by kernel_rfl) (by simp) ?_
      refine AllReady.cons rfl (fun K hK => ?_) ?_
      · obtain ⟨⟨e0, e1, e2, e3, e4⟩, ef⟩ := D5.pa.cells
        go_simp
        clear e0 e1 e2 e3 e4 ef
        refine hK _ _ ?_
        clear hK K
        refine wpAny_ready (rs := [2]) (by kernel_rfl) (by simp) ?_
        refine AllReady.cons rfl (fun K hK => ?_) ?_
        · go_simp
          refine (pick_any B R (p3) 3 _ D5.rd.rd (by omega)).mono ?_
          rintro e u2 ⟨rfl, ra, ga, sa⟩
          have Du2 := D5.more ra ga
          clear ra ga sa
          generalize pickV R (p3) 3 = m1
          refine hK _ _ ?_
          clear hK K
          refine wpAny_take (i := 3) (v := .int .i64 (IntKind.i64.wrap (m1 - 1))) rfl (by kernel_rfl) (by kernel_rfl) (by kernel_rfl) (fun _ _ _ h => h) (Or.inl ⟨by rfl, fun W => by go_simp⟩) ?_
          refine wpAny_ready (rs := [5]) (by kernel_rfl) (by simp) ?_
          refine AllReady.cons rfl (fun K hK => ?_) ?_
          · go_simp
            refine (pick_any B R (p3 + 1) 9 _ Du2.rd.rd (by omega)).mono ?_
            rintro e u5 ⟨rfl, ra, ga, sa⟩
            have Du5 := Du2.more ra ga
            clear ra ga sa
            generalize pickV R (p3 + 1) 9 = m2
            refine hK _ _ ?_
            clear hK K
            refine wpAny_ready (rs := [7]) (by kernel_rfl) (by simp) ?_
            refine AllReady.cons rfl (fun K hK => ?_) ?_
            · go_simp
              refine (pick_any B R (p3 + 1 + 1) 20 _ Du5.rd.rd (by omega)).mono ?_
              rintro e u7 ⟨rfl, ra, ga, sa⟩
              have Du7 := Du5.more ra ga
              clear ra ga sa
              have hm3 : Hid (0 ≤ pickV R (p3 + 1 + 1) 20 ∧ (pickV R (p3 + 1 + 1) 20 < 20 ∨ pickV R (p3 + 1 + 1) 20 = 0)) := pickV_nn h.rng (by omega)
              generalize pickV R (p3 + 1 + 1) 20 = m3 at hm3 ⊢
              refine hK _ _ ?_
              clear hK K
              refine wpAny_ready (rs := [8]) (by kernel_rfl) (by simp) ?_
              refine AllReady.cons rfl (fun K hK => ?_) ?_
              · obtain ⟨⟨f0, f1, f2, f3, f4⟩, ff⟩ := Du7.res.cells
                go_simp
                clear f0 f1 f2 f3 f4 ff
                refine hK _ _ ?_
                clear hK K
                refine wpAny_take (i := 9) (v := .int .i64 (IntKind.i64.wrap (m1 - 1))) rfl (by kernel_rfl) (by kernel_rfl) (by kernel_rfl) (fun _ _ _ h => h) (Or.inl ⟨by rfl, fun W => by go_simp⟩) ?_
                refine wpAny_take (i := 10) (v := .int .i64 m2) rfl (by kernel_rfl) (by kernel_rfl) (by kernel_rfl) (fun _ _ _ h => h) (Or.inl ⟨by rfl, fun W => by go_simp⟩) ?_
                refine wpAny_take (i := 11) (v := .int .i64 m3) rfl (by kernel_rfl) (by kernel_rfl) (by kernel_rfl) (fun _ _ _ h => h) (Or.inl ⟨by rfl, fun W => by go_simp⟩) ?_
                refine wpAny_done (by kernel_rfl) ?_ _
                go_wp2
                obtain ⟨⟨f0, f1, f2, f3, f4⟩, ff⟩ := Du7.res.cells
                refine bodyPost_ret (v := .tuple #[.agg #[.int .i64 q, .int .i64 s, .slice a l.length cap, .int .i64 fr, .int .i64 b], .int .i64 (IntKind.i64.wrap (m1 - 1)), .int .i64 m2, .int .i64 m3]) (by simp [results, Tryz.results67, go_sem, f0, f1, f2, f3, f4]) rfl ?_
                exact Du7.post hcap hlen (by omega) hm3.out.1 _ _ _
              exact AllReady.nil
            exact AllReady.nil
          exact AllReady.nil
        exact AllReady.nil
      refine AllReady.cons rfl (fun K hK => ?_) ?_
      · go_simp
        refine (pick_any B R (p3) 3 _ D5.rd.rd (by omega)).mono ?_
        rintro e u2 ⟨rfl, ra, ga, sa⟩
        have Du2 := D5.more ra ga
        clear ra ga sa
        generalize pickV R (p3) 3 = m1
        refine hK _ _ ?_
        clear hK K
        refine wpAny_take (i := 3) (v := .int .i64 (IntKind.i64.wrap (m1 - 1))) rfl (by kernel_rfl) (by kernel_rfl) (by kernel_rfl) (fun _ _ _ h => h) (Or.inl ⟨by rfl, fun W => by go_simp⟩) ?_
        refine wpAny_ready (rs := [0, 5]) (by kernel_rfl) (by simp) ?_
        refine AllReady.cons rfl (fun K hK => ?_) ?_
        · obtain ⟨⟨e0, e1, e2, e3, e4⟩, ef⟩ := Du2.pa.cells
          go_simp
          clear e0 e1 e2 e3 e4 ef
          refine hK _ _ ?_
          clear hK K
          refine wpAny_ready (rs := [5]) (by kernel_rfl) (by simp) ?_
          refine AllReady.cons rfl (fun K hK => ?_) ?_
          · go_simp
            refine (pick_any B R (p3 + 1) 9 _ Du2.rd.rd (by omega)).mono ?_
            rintro e u5 ⟨rfl, ra, ga, sa⟩
            have Du5 := Du2.more ra ga
            clear ra ga sa
            generalize pickV R (p3 + 1) 9 = m2
            refine hK _ _ ?_
            clear hK K
            refine wpAny_ready (rs := [7]) (by kernel_rfl) (by simp) ?_
            refine AllReady.cons rfl (fun K hK => ?_) ?_
            · go_simp
              refine (pick_any B R (p3 + 1 + 1) 20 _ Du5.rd.rd (by omega)).mono ?_
              rintro e u7 ⟨rfl, ra, ga, sa⟩
              have Du7 := Du5.more ra ga
              clear ra ga sa
              have hm3 : Hid (0 ≤ pickV R (p3 + 1 + 1) 20 ∧ (pickV R (p3 + 1 + 1) 20 < 20 ∨ pickV R (p3 + 1 + 1) 20 = 0)) := pickV_nn h.rng (by omega)
              generalize pickV R (p3 + 1 + 1) 20 = m3 at hm3 ⊢
              refine hK _ _ ?_
              clear hK K
              refine wpAny_ready (rs := [8]) (by kernel_rfl) (by simp) ?_
              refine AllReady.cons rfl (fun K hK => ?_) ?_
              · obtain ⟨⟨f0, f1, f2, f3, f4⟩, ff⟩ := Du7.res.cells
                go_simp
                clear f0 f1 f2 f3 f4 ff
                refine hK _ _ ?_
                clear hK K
                refine wpAny_take (i := 9) (v := .int .i64 (IntKind.i64.wrap (m1 - 1))) rfl (by kernel_rfl) (by kernel_rfl) (by kernel_rfl) (fun _ _ _ h => h) (Or.inl ⟨by rfl, fun W => by go_simp⟩) ?_
                refine wpAny_take (i := 10) (v := .int .i64 m2) rfl (by kernel_rfl) (by kernel_rfl) (by kernel_rfl) (fun _ _ _ h => h) (Or.inl ⟨by rfl, fun W => by go_simp⟩) ?_
                refine wpAny_take (i := 11) (v := .int .i64 m3) rfl (by kernel_rfl) (by kernel_rfl) (by kernel_rfl) (fun _ _ _ h => h) (Or.inl ⟨by rfl, fun W => by go_simp⟩) ?_
                refine wpAny_done (by kernel_rfl) ?_ _
                go_wp2
                obtain ⟨⟨f0, f1, f2, f3, f4⟩, ff⟩ := Du7.res.cells
                refine bodyPost_ret (v := .tuple #[.agg #[.int .i64 q, .int .i64 s, .slice a l.length cap, .int .i64 fr, .int .i64 b], .int .i64 (IntKind.i64.wrap (m1 - 1)), .int .i64 m2, .int .i64 m3]) (by simp [results, Tryz.results67, go_sem, f0, f1, f2, f3, f4]) rfl ?_
                exact Du7.post hcap hlen (by omega) hm3.out.1 _ _ _
              exact AllReady.nil
            exact AllReady.nil
          exact AllReady.nil
        refine AllReady.cons rfl (fun K hK => ?_) ?_
        · go_simp
          refine (pick_any B R (p3 + 1) 9 _ Du2.rd.rd (by omega)).mono ?_
          rintro e u5 ⟨rfl, ra, ga, sa⟩
          have Du5 := Du2.more ra ga
          clear ra ga sa
          generalize pickV R (p3 + 1) 9 = m2
          refine hK _ _ ?_
          clear hK K
          refine wpAny_ready (rs := [0, 7]) (by kernel_rfl) (by simp) ?_
          refine AllReady.cons rfl (fun K hK => ?_) ?_
          · obtain ⟨⟨e0, e1, e2, e3, e4⟩, ef⟩ := Du5.pa.cells
            go_simp
            clear e0 e1 e2 e3 e4 ef
            refine hK _ _ ?_
            clear hK K
            refine wpAny_ready (rs := [7]) (by kernel_rfl) (by simp) ?_
            refine AllReady.cons rfl (fun K hK => ?_) ?_
            · go_simp
              refine (pick_any B R (p3 + 1 + 1) 20 _ Du5.rd.rd (by omega)).mono ?_
              rintro e u7 ⟨rfl, ra, ga, sa⟩
              have Du7 := Du5.more ra ga
              clear ra ga sa
              have hm3 : Hid (0 ≤ pickV R (p3 + 1 + 1) 20 ∧ (pickV R (p3 + 1 + 1) 20 < 20 ∨ pickV R (p3 + 1 + 1) 20 = 0)) := pickV_nn h.rng (by omega)
              generalize pickV R (p3 + 1 + 1) 20 = m3 at hm3 ⊢
              refine hK _ _ ?_
              clear hK K
              refine wpAny_ready (rs := [8]) (by kernel_rfl) (by simp) ?_
              refine AllReady.cons rfl (fun K hK => ?_) ?_
              · obtain ⟨⟨f0, f1, f2, f3, f4⟩, ff⟩ := Du7.res.cells
                go_simp
                clear f0 f1 f2 f3 f4 ff
                refine hK _ _ ?_
                clear hK K
                refine wpAny_take (i := 9) (v := .int .i64 (IntKind.i64.wrap (m1 - 1))) rfl (by kernel_rfl) (by kernel_rfl) (by kernel_rfl) (fun _ _ _ h => h) (Or.inl ⟨by rfl, fun W => by go_simp⟩) ?_
                refine wpAny_take (i := 10) (v := .int .i64 m2) rfl (by kernel_rfl) (by kernel_rfl) (by kernel_rfl) (fun _ _ _ h => h) (Or.inl ⟨by rfl, fun W => by go_simp⟩) ?_
                refine wpAny_take (i := 11) (v := .int .i64 m3) rfl (by kernel_rfl) (by kernel_rfl) (by kernel_rfl) (fun _ _ _ h => h) (Or.inl ⟨by rfl, fun W => by go_simp⟩) ?_
                refine wpAny_done (by kernel_rfl) ?_ _
                go_wp2
                obtain ⟨⟨f0, f1, f2, f3, f4⟩, ff⟩ := Du7.res.cells
                refine bodyPost_ret (v := .tuple #[.agg #[.int .i64 q, .int .i64 s, .slice a l.length cap, .int .i64 fr, .int .i64 b], .int .i64 (IntKind.i64.wrap (m1 - 1)), .int .i64 m2, .int .i64 m3]) (by simp [results, Tryz.results67, go_sem, f0, f1, f2, f3, f4]) rfl ?_
                exact Du7.post hcap hlen (by omega) hm3.out.1 _ _ _
              exact AllReady.nil
            exact AllReady.nil
          refine AllReady.cons rfl (fun K hK => ?_) ?_
          · go_simp
            refine (pick_any B R (p3 + 1 + 1) 20 _ Du5.rd.rd (by omega)).mono ?_
            rintro e u7 ⟨rfl, ra, ga, sa⟩
            have Du7 := Du5.more ra ga
            clear ra ga sa
            have hm3 : Hid (0 ≤ pickV R (p3 + 1 + 1) 20 ∧ (pickV R (p3 + 1 + 1) 20 < 20 ∨ pickV R (p3 + 1 + 1) 20 = 0)) := pickV_nn h.rng (by omega)
            generalize pickV R (p3 + 1 + 1) 20 = m3 at hm3 ⊢
            refine hK _ _ ?_
            clear hK K
            refine wpAny_ready (rs := [0]) (by kernel_rfl) (by simp) ?_
            refine AllReady.cons rfl (fun K hK => ?_) ?_
            · obtain ⟨⟨e0, e1, e2, e3, e4⟩, ef⟩ := Du7.pa.cells
              go_simp
              clear e0 e1 e2 e3 e4 ef
              refine hK _ _ ?_
              clear hK K
              refine wpAny_ready (rs := [8]) (by kernel_rfl) (by simp) ?_
              refine AllReady.cons rfl (fun K hK => ?_) ?_
              · obtain ⟨⟨f0, f1, f2, f3, f4⟩, ff⟩ := Du7.res.cells
                go_simp
                clear f0 f1 f2 f3 f4 ff
                refine hK _ _ ?_
                clear hK K
                refine wpAny_take (i := 9) (v := .int .i64 (IntKind.i64.wrap (m1 - 1))) rfl (by kernel_rfl) (by kernel_rfl) (by kernel_rfl) (fun _ _ _ h => h) (Or.inl ⟨by rfl, fun W => by go_simp⟩) ?_
                refine wpAny_take (i := 10) (v := .int .i64 m2) rfl (by kernel_rfl) (by kernel_rfl) (by kernel_rfl) (fun _ _ _ h => h) (Or.inl ⟨by rfl, fun W => by go_simp⟩) ?_
                refine wpAny_take (i := 11) (v := .int .i64 m3) rfl (by kernel_rfl) (by kernel_rfl) (by kernel_rfl) (fun _ _ _ h => h) (Or.inl ⟨by rfl, fun W => by go_simp⟩) ?_
                refine wpAny_done (by kernel_rfl) ?_ _
                go_wp2
                obtain ⟨⟨f0, f1, f2, f3, f4⟩, ff⟩ := Du7.res.cells
                refine bodyPost_ret (v := .tuple #[.agg #[.int .i64 q, .int .i64 s, .slice a l.length cap, .int .i64 fr, .int .i64 b], .int .i64 (IntKind.i64.wrap (m1 - 1)), .int .i64 m2, .int .i64 m3]) (by simp [results, Tryz.results67, go_sem, f0, f1, f2, f3, f4]) rfl ?_
                exact Du7.post hcap hlen (by omega) hm3.out.1 _ _ _
              exact AllReady.nil
            exact AllReady.nil
          exact AllReady.nil
        exact AllReady.nil
      exact AllReady.nil
    | true =>
      have hlaw : lawB q s fr b l (flownL q s fr b l [] az) = true := by unfold flownL; rw [hf]; exact hf
      have hpa : pathB q s fr b l = true := by unfold lawB at hlaw; simp only [Bool.and_eq_true] at hlaw; exact hlaw.1.1
      have hzl := lawB_length hlaw
      have hl1 := (path_len hpa).1
      have hzr : ∀ k z, (flownL q s fr b l [] az)[k]? = some z → k ≤ l.length → 0 ≤ z ∧ z ≤ 10000 := fun k z hz hk => by
        have := top_range hlaw hk
        rw [List.getD_eq_getElem?_getD, hz] at this
        exact this
      generalize flownL q s fr b l [] az = zs at *
      clear hlaw hpa
      obtain ⟨g, dcap, rfl, hg1, hg2⟩ := owns_some ho3 (by omega)
      obtain ⟨⟨e0, e1, e2, e3, e4⟩, ef⟩ := D4.pa.cells
      have k1 : (1 : Int) ≤ (l.length : Int) := by omega
      go_wp2_with fail
      refine (pick_any B R p3 (l.length : Int) _ D4.rd.rd (by omega)).mono ?_
      rintro e w5 ⟨rfl, ra, ga, sa⟩
      obtain ⟨hr1, hr2⟩ := pickV_range (n := (l.length : Int)) D4.rd.rd.rng (show p3 ≤ 1000000000 by omega) (by omega)
      have D5 := D4.more ra ga
      have ho5 := owns_grown ho3 ga (fun k e => by cases e; have := D4.rd.lt; omega)
      clear ra ga sa e0 e1 e2 e3 e4 ef D4 ho3
      obtain ⟨kn, hkn⟩ : ∃ kn : Nat, pickV R p3 (l.length : Int) = (kn : Int) := Int.eq_ofNat_of_zero_le hr1
      rw [hkn] at hr2 ⊢
      clear hkn hr1
      obtain ⟨z0, hz0⟩ : ∃ z, zs[kn]? = some z := ⟨_, List.getElem?_eq_getElem (by omega)⟩
      obtain ⟨z1, hz1⟩ : ∃ z, zs[kn + 1]? = some z := ⟨_, List.getElem?_eq_getElem (by omega)⟩
      have HZB : Hid ((0 ≤ z0 ∧ z0 ≤ 10000) ∧ 0 ≤ z1 ∧ z1 ≤ 10000) := ⟨hzr _ _ hz0 (by omega), hzr _ _ hz1 (by omega)⟩
      clear hzr
      have kk0 : (0 : Int) ≤ (kn : Int) := by omega
      have kk1 : (kn : Int) < (zs.length : Int) := by omega
      have kk2 : (0 : Int) ≤ (kn : Int) + 1 := by omega
      have kk3 : (kn : Int) + 1 < (zs.length : Int) := by omega
      have kw : IntKind.i64.wrap ((kn : Int) + 1) = (kn : Int) + 1 := by rw [IntKind.wrap_i64]; omega
      have HZL : Hid (zs.length = l.length + 1) := hzl
      clear hzl
      go_wp2
      go_cut [10] (fun s10 wc => ∃ (tt : Int) (p' : Nat), s10 = .int .i64 tt ∧ p' ≤ 6410 ∧ (0 ≤ tt ∧ tt ≤ 20000) ∧ wc.ownsRow (w.heap.size + 1) 3 1 (.slice (some ⟨g, 0, none⟩) zs.length dcap) zs.length (intCells zs) ∧ SnD w wc B R p' X q s fr b a b0 o cap l)
      case first =>
        refine wp_region_any (by kernel_rfl) ?_
        change wpAny _ _ _ _ _ _ _ (World.drew _)
        have D6 := D5.drew
        have ho6 : w5.drew.ownsRow (w.heap.size + 1) 3 1 (.slice (some ⟨g, 0, none⟩) zs.length dcap) zs.length (intCells zs) := ho5
        refine wpAny_take (i := 0) (v := .slice (some ⟨g, 0, none⟩) zs.length dcap) rfl (by kernel_rfl) (by kernel_rfl) (by kernel_rfl) (fun _ _ _ h => h) (Or.inl ⟨by rfl, fun W => by go_simp⟩) ?_
        refine wpAny_take (i := 1) (v := .int .i64 (kn : Int)) rfl (by kernel_rfl) (by kernel_rfl) (by kernel_rfl) (fun _ _ _ h => h) (Or.inl ⟨by rfl, fun W => by go_simp⟩) ?_
        refine wpAny_take (i := 2) (v := .pointer (some ⟨g, kn, none⟩)) rfl (by kernel_rfl) (by kernel_rfl) (by kernel_rfl) (fun _ _ _ h => h) (Or.inl ⟨by rfl, fun W => by go_simp⟩) ?_
        refine wpAny_take (i := 4) (v := .pointer (some ⟨B, 0, none⟩)) rfl (by kernel_rfl) (by kernel_rfl) (by kernel_rfl) (fun _ _ _ h => h) (Or.inl ⟨by rfl, fun W => by go_simp⟩) ?_
        refine wpAny_take (i := 5) (v := .slice (some ⟨g, 0, none⟩) zs.length dcap) rfl (by kernel_rfl) (by kernel_rfl) (by kernel_rfl) (fun _ _ _ h => h) (Or.inl ⟨by rfl, fun W => by go_simp⟩) ?_
        refine wpAny_take (i := 6) (v := .int .i64 (kn : Int)) rfl (by kernel_rfl) (by kernel_rfl) (by kernel_rfl) (fun _ _ _ h => h) (Or.inl ⟨by rfl, fun W => by go_simp⟩) ?_
        refine wpAny_take (i := 7) (v := .int .i64 ((kn : Int) + 1)) rfl (by kernel_rfl) (by kernel_rfl) (by kernel_rfl) (fun _ _ _ h => h) (Or.inl ⟨by rfl, fun W => by go_simp⟩) ?_
        refine wpAny_take (i := 8) (v := .pointer (some ⟨g, kn + 1, none⟩)) rfl (by kernel_rfl) (by kernel_rfl) (by kernel_rfl) (fun _ _ _ h => h) (Or.inl ⟨by rfl, fun W => by go_simp⟩) ?_
        refine wpAny_take (i := 10) (v := .slice (some ⟨g, 0, none⟩) zs.length dcap) rfl (by kernel_rfl) (by kernel_rfl) (by kernel_rfl) (fun _ _ _ h => h) (Or.inl ⟨by rfl, fun W => by go_simp⟩) ?_
        refine wpAny_take (i := 11) (v := .int .i64 (kn : Int)) rfl (by kernel_rfl) (by kernel_rfl) (by kernel_rfl) (fun _ _ _ h => h) (Or.inl ⟨by rfl, fun W => by go_simp⟩) ?_
        refine wpAny_take (i := 12) (v := .pointer (some ⟨g, kn, none⟩)) rfl (by kernel_rfl) (by kernel_rfl) (by kernel_rfl) (fun _ _ _ h => h) (Or.inl ⟨by rfl, fun W => by go_simp⟩) ?_
        refine wpAny_ready (rs := [3, 9, 13]) (by kernel_rfl) (by simp) ?_
        refine AllReady.cons rfl (fun K hK => ?_) ?_
        · have tk := (ho6.cellAt kn (by omega)).trans (intCells_get zs kn _ hz0)
          go_simp
          clear tk
          refine hK _ _ ?_
          clear hK K
          refine wpAny_ready (rs := [9, 13]) (by kernel_rfl) (by simp) ?_
          refine AllReady.cons rfl (fun K hK => ?_) ?_
          · have tk := (ho6.cellAt (kn + 1) (by omega)).trans (intCells_get zs (kn + 1) _ hz1)
            go_simp
            clear tk
            refine hK _ _ ?_
            clear hK K
            refine wpAny_ready (rs := [13]) (by kernel_rfl) (by simp) ?_
            refine AllReady.cons rfl (fun K hK => ?_) ?_
            · have tk := (ho6.cellAt kn (by omega)).trans (intCells_get zs kn _ hz0)
              go_simp
              clear tk
              refine hK _ _ ?_
              clear hK K
              refine wpAny_take (i := 14) (v := .int .i64 (IntKind.i64.wrap (z1 - z0))) rfl (by kernel_rfl) (by kernel_rfl) (by kernel_rfl) (fun _ _ _ h => h) (Or.inl ⟨by rfl, fun W => by go_simp⟩) ?_
              refine wpAny_ready (rs := [15]) (by kernel_rfl) (by simp) ?_
              refine AllReady.cons rfl (fun K hK => ?_) ?_
              · go_simp
                refine (pick_any B R (p3 + 1) (IntKind.i64.wrap (z1 - z0)) _ D6.rd.rd (by omega)).mono ?_
                rintro e u15 ⟨rfl, ra, ga, sa⟩
                have Du15 := D6.more ra ga
                have hu15 := owns_grown ho6 ga (fun k e => by cases e; have := D6.rd.lt; omega)
                clear ra ga sa
                have hm5 : Hid (0 ≤ pickV R (p3 + 1) (IntKind.i64.wrap (z1 - z0)) ∧ (pickV R (p3 + 1) (IntKind.i64.wrap (z1 - z0)) < (IntKind.i64.wrap (z1 - z0)) ∨ pickV R (p3 + 1) (IntKind.i64.wrap (z1 - z0)) = 0)) := pickV_nn h.rng (by omega)
                generalize pickV R (p3 + 1) (IntKind.i64.wrap (z1 - z0)) = m5 at hm5 ⊢
                refine hK _ _ ?_
                clear hK K
                refine wpAny_take (i := 16) (v := .int .i64 (IntKind.i64.wrap (z0 + m5))) rfl (by kernel_rfl) (by kernel_rfl) (by kernel_rfl) (fun _ _ _ h => h) (Or.inl ⟨by rfl, fun W => by go_simp⟩) ?_
                refine wpAny_take (i := 17) (v := .int .i64 (IntKind.i64.wrap (z0 + m5))) rfl (by kernel_rfl) (by kernel_rfl) (by kernel_rfl) (fun _ _ _ h => h) (Or.inl ⟨by rfl, fun W => by go_simp⟩) ?_
                refine wpAny_done (by kernel_rfl) ?_ _
                go_wp2
                go_meet
                case rel => exact ⟨_, _, rfl, by omega, sn_tick HZB.out hm5.out, hu15, Du15⟩
              exact AllReady.nil
            exact AllReady.nil
          refine AllReady.cons rfl (fun K hK => ?_) ?_
          · have tk := (ho6.cellAt kn (by omega)).trans (intCells_get zs kn _ hz0)
            go_simp
            clear tk
            refine hK _ _ ?_
            clear hK K
            refine wpAny_ready (rs := [9]) (by kernel_rfl) (by simp) ?_
            refine AllReady.cons rfl (fun K hK => ?_) ?_
            · have tk := (ho6.cellAt (kn + 1) (by omega)).trans (intCells_get zs (kn + 1) _ hz1)
              go_simp
              clear tk
              refine hK _ _ ?_
              clear hK K
              refine wpAny_take (i := 14) (v := .int .i64 (IntKind.i64.wrap (z1 - z0))) rfl (by kernel_rfl) (by kernel_rfl) (by kernel_rfl) (fun _ _ _ h => h) (Or.inl ⟨by rfl, fun W => by go_simp⟩) ?_
              refine wpAny_ready (rs := [15]) (by kernel_rfl) (by simp) ?_
              refine AllReady.cons rfl (fun K hK => ?_) ?_
              · go_simp
                refine (pick_any B R (p3 + 1) (IntKind.i64.wrap (z1 - z0)) _ D6.rd.rd (by omega)).mono ?_
                rintro e u15 ⟨rfl, ra, ga, sa⟩
                have Du15 := D6.more ra ga
                have hu15 := owns_grown ho6 ga (fun k e => by cases e; have := D6.rd.lt; omega)
                clear ra ga sa
                have hm5 : Hid (0 ≤ pickV R (p3 + 1) (IntKind.i64.wrap (z1 - z0)) ∧ (pickV R (p3 + 1) (IntKind.i64.wrap (z1 - z0)) < (IntKind.i64.wrap (z1 - z0)) ∨ pickV R (p3 + 1) (IntKind.i64.wrap (z1 - z0)) = 0)) := pickV_nn h.rng (by omega)
                generalize pickV R (p3 + 1) (IntKind.i64.wrap (z1 - z0)) = m5 at hm5 ⊢
                refine hK _ _ ?_
                clear hK K
                refine wpAny_take (i := 16) (v := .int .i64 (IntKind.i64.wrap (z0 + m5))) rfl (by kernel_rfl) (by kernel_rfl) (by kernel_rfl) (fun _ _ _ h => h) (Or.inl ⟨by rfl, fun W => by go_simp⟩) ?_
                refine wpAny_take (i := 17) (v := .int .i64 (IntKind.i64.wrap (z0 + m5))) rfl (by kernel_rfl) (by kernel_rfl) (by kernel_rfl) (fun _ _ _ h => h) (Or.inl ⟨by rfl, fun W => by go_simp⟩) ?_
                refine wpAny_done (by kernel_rfl) ?_ _
                go_wp2
                go_meet
                case rel => exact ⟨_, _, rfl, by omega, sn_tick HZB.out hm5.out, hu15, Du15⟩
              exact AllReady.nil
            exact AllReady.nil
          exact AllReady.nil
        refine AllReady.cons rfl (fun K hK => ?_) ?_
        · have tk := (ho6.cellAt (kn + 1) (by omega)).trans (intCells_get zs (kn + 1) _ hz1)
          go_simp
          clear tk
          refine hK _ _ ?_
          clear hK K
          refine wpAny_ready (rs := [3, 13]) (by kernel_rfl) (by simp) ?_
          refine AllReady.cons rfl (fun K hK => ?_) ?_
          · have tk := (ho6.cellAt kn (by omega)).trans (intCells_get zs kn _ hz0)
            go_simp
            clear tk
            refine hK _ _ ?_
            clear hK K
            refine wpAny_ready (rs := [13]) (by kernel_rfl) (by simp) ?_
            refine AllReady.cons rfl (fun K hK => ?_) ?_
            · have tk := (ho6.cellAt kn (by omega)).trans (intCells_get zs kn _ hz0)
              go_simp
              clear tk
              refine hK _ _ ?_
              clear hK K
              refine wpAny_take (i := 14) (v := .int .i64 (IntKind.i64.wrap (z1 - z0))) rfl (by kernel_rfl) (by kernel_rfl) (by kernel_rfl) (fun _ _ _ h => h) (Or.inl ⟨by rfl, fun W => by go_simp⟩) ?_
              refine wpAny_ready (rs := [15]) (by kernel_rfl) (by simp) ?_
              refine AllReady.cons rfl (fun K hK => ?_) ?_
              · go_simp
                refine (pick_any B R (p3 + 1) (IntKind.i64.wrap (z1 - z0)) _ D6.rd.rd (by omega)).mono ?_
                rintro e u15 ⟨rfl, ra, ga, sa⟩
                have Du15 := D6.more ra ga
                have hu15 := owns_grown ho6 ga (fun k e => by cases e; have := D6.rd.lt; omega)
                clear ra ga sa
                have hm5 : Hid (0 ≤ pickV R (p3 + 1) (IntKind.i64.wrap (z1 - z0)) ∧ (pickV R (p3 + 1) (IntKind.i64.wrap (z1 - z0)) < (IntKind.i64.wrap (z1 - z0)) ∨ pickV R (p3 + 1) (IntKind.i64.wrap (z1 - z0)) = 0)) := pickV_nn h.rng (by omega)
                generalize pickV R (p3 + 1) (IntKind.i64.wrap (z1 - z0)) = m5 at hm5 ⊢
                refine hK _ _ ?_
                clear hK K
                refine wpAny_take (i := 16) (v := .int .i64 (IntKind.i64.wrap (z0 + m5))) rfl (by kernel_rfl) (by kernel_rfl) (by kernel_rfl) (fun _ _ _ h => h) (Or.inl ⟨by rfl, fun W => by go_simp⟩) ?_
                refine wpAny_take (i := 17) (v := .int .i64 (IntKind.i64.wrap (z0 + m5))) rfl (by kernel_rfl) (by kernel_rfl) (by kernel_rfl) (fun _ _ _ h => h) (Or.inl ⟨by rfl, fun W => by go_simp⟩) ?_
                refine wpAny_done (by kernel_rfl) ?_ _
                go_wp2
                go_meet
                case rel => exact ⟨_, _, rfl, by omega, sn_tick HZB.out hm5.out, hu15, Du15⟩
              exact AllReady.nil
            exact AllReady.nil
          refine AllReady.cons rfl (fun K hK => ?_) ?_
          · have tk := (ho6.cellAt kn (by omega)).trans (intCells_get zs kn _ hz0)
            go_simp
            clear tk
            refine hK _ _ ?_
            clear hK K
            refine wpAny_take (i := 14) (v := .int .i64 (IntKind.i64.wrap (z1 - z0))) rfl (by kernel_rfl) (by kernel_rfl) (by kernel_rfl) (fun _ _ _ h => h) (Or.inl ⟨by rfl, fun W => by go_simp⟩) ?_
            refine wpAny_ready (rs := [3, 15]) (by kernel_rfl) (by simp) ?_
            refine AllReady.cons rfl (fun K hK => ?_) ?_
            · have tk := (ho6.cellAt kn (by omega)).trans (intCells_get zs kn _ hz0)
              go_simp
              clear tk
              refine hK _ _ ?_
              clear hK K
              refine wpAny_ready (rs := [15]) (by kernel_rfl) (by simp) ?_
              refine AllReady.cons rfl (fun K hK => ?_) ?_
              · go_simp
                refine (pick_any B R (p3 + 1) (IntKind.i64.wrap (z1 - z0)) _ D6.rd.rd (by omega)).mono ?_
                rintro e u15 ⟨rfl, ra, ga, sa⟩
                have Du15 := D6.more ra ga
                have hu15 := owns_grown ho6 ga (fun k e => by cases e; have := D6.rd.lt; omega)
                clear ra ga sa
                have hm5 : Hid (0 ≤ pickV R (p3 + 1) (IntKind.i64.wrap (z1 - z0)) ∧ (pickV R (p3 + 1) (IntKind.i64.wrap (z1 - z0)) < (IntKind.i64.wrap (z1 - z0)) ∨ pickV R (p3 + 1) (IntKind.i64.wrap (z1 - z0)) = 0)) := pickV_nn h.rng (by omega)
                generalize pickV R (p3 + 1) (IntKind.i64.wrap (z1 - z0)) = m5 at hm5 ⊢
                refine hK _ _ ?_
                clear hK K
                refine wpAny_take (i := 16) (v := .int .i64 (IntKind.i64.wrap (z0 + m5))) rfl (by kernel_rfl) (by kernel_rfl) (by kernel_rfl) (fun _ _ _ h => h) (Or.inl ⟨by rfl, fun W => by go_simp⟩) ?_
                refine wpAny_take (i := 17) (v := .int .i64 (IntKind.i64.wrap (z0 + m5))) rfl (by kernel_rfl) (by kernel_rfl) (by kernel_rfl) (fun _ _ _ h => h) (Or.inl ⟨by rfl, fun W => by go_simp⟩) ?_
                refine wpAny_done (by kernel_rfl) ?_ _
                go_wp2
                go_meet
                case rel => exact ⟨_, _, rfl, by omega, sn_tick HZB.out hm5.out, hu15, Du15⟩
              exact AllReady.nil
            refine AllReady.cons rfl (fun K hK => ?_) ?_
            · go_simp
              refine (pick_any B R (p3 + 1) (IntKind.i64.wrap (z1 - z0)) _ D6.rd.rd (by omega)).mono ?_
              rintro e u15 ⟨rfl, ra, ga, sa⟩
              have Du15 := D6.more ra ga
              have hu15 := owns_grown ho6 ga (fun k e => by cases e; have := D6.rd.lt; omega)
              clear ra ga sa
              have hm5 : Hid (0 ≤ pickV R (p3 + 1) (IntKind.i64.wrap (z1 - z0)) ∧ (pickV R (p3 + 1) (IntKind.i64.wrap (z1 - z0)) < (IntKind.i64.wrap (z1 - z0)) ∨ pickV R (p3 + 1) (IntKind.i64.wrap (z1 - z0)) = 0)) := pickV_nn h.rng (by omega)
              generalize pickV R (p3 + 1) (IntKind.i64.wrap (z1 - z0)) = m5 at hm5 ⊢
              refine hK _ _ ?_
              clear hK K
              refine wpAny_ready (rs := [3]) (by kernel_rfl) (by simp) ?_
              refine AllReady.cons rfl (fun K hK => ?_) ?_
              · have tk := (hu15.cellAt kn (by omega)).trans (intCells_get zs kn _ hz0)
                go_simp
                clear tk
                refine hK _ _ ?_
                clear hK K
                refine wpAny_take (i := 16) (v := .int .i64 (IntKind.i64.wrap (z0 + m5))) rfl (by kernel_rfl) (by kernel_rfl) (by kernel_rfl) (fun _ _ _ h => h) (Or.inl ⟨by rfl, fun W => by go_simp⟩) ?_
                refine wpAny_take (i := 17) (v := .int .i64 (IntKind.i64.wrap (z0 + m5))) rfl (by kernel_rfl) (by kernel_rfl) (by kernel_rfl) (fun _ _ _ h => h) (Or.inl ⟨by rfl, fun W => by go_simp⟩) ?_
                refine wpAny_done (by kernel_rfl) ?_ _
                go_wp2
                go_meet
                case rel => exact ⟨_, _, rfl, by omega, sn_tick HZB.out hm5.out, hu15, Du15⟩
              exact AllReady.nil
            exact AllReady.nil
          exact AllReady.nil
        refine AllReady.cons rfl (fun K hK => ?_) ?_
        · have tk := (ho6.cellAt kn (by omega)).trans (intCells_get zs kn _ hz0)
          go_simp
          clear tk
          refine hK _ _ ?_
          clear hK K
          refine wpAny_ready (rs := [3, 9]) (by kernel_rfl) (by simp) ?_
          refine AllReady.cons rfl (fun K hK => ?_) ?_
          · have tk := (ho6.cellAt kn (by omega)).trans (intCells_get zs kn _ hz0)
            go_simp
            clear tk
            refine hK _ _ ?_
            clear hK K
            refine wpAny_ready (rs := [9]) (by kernel_rfl) (by simp) ?_
            refine AllReady.cons rfl (fun K hK => ?_) ?_
            · have tk := (ho6.cellAt (kn + 1) (by omega)).trans (intCells_get zs (kn + 1) _ hz1)
              go_simp
              clear tk
              refine hK _ _ ?_
              clear hK K
              refine wpAny_take (i := 14) (v := .int .i64 (IntKind.i64.wrap (z1 - z0))) rfl (by kernel_rfl) (by kernel_rfl) (by kernel_rfl) (fun _ _ _ h => h) (Or.inl ⟨by rfl, fun W => by go_simp⟩) ?_
              refine wpAny_ready (rs := [15]) (by kernel_rfl) (by simp) ?_
              refine AllReady.cons rfl (fun K hK => ?_) ?_
              · go_simp
                refine (pick_any B R (p3 + 1) (IntKind.i64.wrap (z1 - z0)) _ D6.rd.rd (by omega)).mono ?_
                rintro e u15 ⟨rfl, ra, ga, sa⟩
                have Du15 := D6.more ra ga
                have hu15 := owns_grown ho6 ga (fun k e => by cases e; have := D6.rd.lt; omega)
                clear ra ga sa
                have hm5 : Hid (0 ≤ pickV R (p3 + 1) (IntKind.i64.wrap (z1 - z0)) ∧ (pickV R (p3 + 1) (IntKind.i64.wrap (z1 - z0)) < (IntKind.i64.wrap (z1 - z0)) ∨ pickV R (p3 + 1) (IntKind.i64.wrap (z1 - z0)) = 0)) := pickV_nn h.rng (by omega)
                generalize pickV R (p3 + 1) (IntKind.i64.wrap (z1 - z0)) = m5 at hm5 ⊢
                refine hK _ _ ?_
                clear hK K
                refine wpAny_take (i := 16) (v := .int .i64 (IntKind.i64.wrap (z0 + m5))) rfl (by kernel_rfl) (by kernel_rfl) (by kernel_rfl) (fun _ _ _ h => h) (Or.inl ⟨by rfl, fun W => by go_simp⟩) ?_
                refine wpAny_take (i := 17) (v := .int .i64 (IntKind.i64.wrap (z0 + m5))) rfl (by kernel_rfl) (by kernel_rfl) (by kernel_rfl) (fun _ _ _ h => h) (Or.inl ⟨by rfl, fun W => by go_simp⟩) ?_
                refine wpAny_done (by kernel_rfl) ?_ _
                go_wp2
                go_meet
                case rel => exact ⟨_, _, rfl, by omega, sn_tick HZB.out hm5.out, hu15, Du15⟩
              exact AllReady.nil
            exact AllReady.nil
          refine AllReady.cons rfl (fun K hK => ?_) ?_
          · have tk := (ho6.cellAt (kn + 1) (by omega)).trans (intCells_get zs (kn + 1) _ hz1)
            go_simp
            clear tk
            refine hK _ _ ?_
            clear hK K
            refine wpAny_take (i := 14) (v := .int .i64 (IntKind.i64.wrap (z1 - z0))) rfl (by kernel_rfl) (by kernel_rfl) (by kernel_rfl) (fun _ _ _ h => h) (Or.inl ⟨by rfl, fun W => by go_simp⟩) ?_
            refine wpAny_ready (rs := [3, 15]) (by kernel_rfl) (by simp) ?_
            refine AllReady.cons rfl (fun K hK => ?_) ?_
            · have tk := (ho6.cellAt kn (by omega)).trans (intCells_get zs kn _ hz0)
              go_simp
              clear tk
              refine hK _ _ ?_
              clear hK K
              refine wpAny_ready (rs := [15]) (by kernel_rfl) (by simp) ?_
              refine AllReady.cons rfl (fun K hK => ?_) ?_
              · go_simp
                refine (pick_any B R (p3 + 1) (IntKind.i64.wrap (z1 - z0)) _ D6.rd.rd (by omega)).mono ?_
                rintro e u15 ⟨rfl, ra, ga, sa⟩
                have Du15 := D6.more ra ga
                have hu15 := owns_grown ho6 ga (fun k e => by cases e; have := D6.rd.lt; omega)
                clear ra ga sa
                have hm5 : Hid (0 ≤ pickV R (p3 + 1) (IntKind.i64.wrap (z1 - z0)) ∧ (pickV R (p3 + 1) (IntKind.i64.wrap (z1 - z0)) < (IntKind.i64.wrap (z1 - z0)) ∨ pickV R (p3 + 1) (IntKind.i64.wrap (z1 - z0)) = 0)) := pickV_nn h.rng (by omega)
                generalize pickV R (p3 + 1) (IntKind.i64.wrap (z1 - z0)) = m5 at hm5 ⊢
                refine hK _ _ ?_
                clear hK K
                refine wpAny_take (i := 16) (v := .int .i64 (IntKind.i64.wrap (z0 + m5))) rfl (by kernel_rfl) (by kernel_rfl) (by kernel_rfl) (fun _ _ _ h => h) (Or.inl ⟨by rfl, fun W => by go_simp⟩) ?_
                refine wpAny_take (i := 17) (v := .int .i64 (IntKind.i64.wrap (z0 + m5))) rfl (by kernel_rfl) (by kernel_rfl) (by kernel_rfl) (fun _ _ _ h => h) (Or.inl ⟨by rfl, fun W => by go_simp⟩) ?_
                refine wpAny_done (by kernel_rfl) ?_ _
                go_wp2
                go_meet
                case rel => exact ⟨_, _, rfl, by omega, sn_tick HZB.out hm5.out, hu15, Du15⟩
              exact AllReady.nil
            refine AllReady.cons rfl (fun K hK => ?_) ?_
            · go_simp
              refine (pick_any B R (p3 + 1) (IntKind.i64.wrap (z1 - z0)) _ D6.rd.rd (by omega)).mono ?_
              rintro e u15 ⟨rfl, ra, ga, sa⟩
              have Du15 := D6.more ra ga
              have hu15 := owns_grown ho6 ga (fun k e => by cases e; have := D6.rd.lt; omega)
              clear ra ga sa
              have hm5 : Hid (0 ≤ pickV R (p3 + 1) (IntKind.i64.wrap (z1 - z0)) ∧ (pickV R (p3 + 1) (IntKind.i64.wrap (z1 - z0)) < (IntKind.i64.wrap (z1 - z0)) ∨ pickV R (p3 + 1) (IntKind.i64.wrap (z1 - z0)) = 0)) := pickV_nn h.rng (by omega)
              generalize pickV R (p3 + 1) (IntKind.i64.wrap (z1 - z0)) = m5 at hm5 ⊢
              refine hK _ _ ?_
              clear hK K
              refine wpAny_ready (rs := [3]) (by kernel_rfl) (by simp) ?_
              refine AllReady.cons rfl (fun K hK => ?_) ?_
              · have tk := (hu15.cellAt kn (by omega)).trans (intCells_get zs kn _ hz0)
                go_simp
                clear tk
                refine hK _ _ ?_
                clear hK K
                refine wpAny_take (i := 16) (v := .int .i64 (IntKind.i64.wrap (z0 + m5))) rfl (by kernel_rfl) (by kernel_rfl) (by kernel_rfl) (fun _ _ _ h => h) (Or.inl ⟨by rfl, fun W => by go_simp⟩) ?_
                refine wpAny_take (i := 17) (v := .int .i64 (IntKind.i64.wrap (z0 + m5))) rfl (by kernel_rfl) (by kernel_rfl) (by kernel_rfl) (fun _ _ _ h => h) (Or.inl ⟨by rfl, fun W => by go_simp⟩) ?_
                refine wpAny_done (by kernel_rfl) ?_ _
                go_wp2
                go_meet
                case rel => exact ⟨_, _, rfl, by omega, sn_tick HZB.out hm5.out, hu15, Du15⟩
              exact AllReady.nil
            exact AllReady.nil
          exact AllReady.nil
        exact AllReady.nil
      case rest =>
        obtain ⟨tt, p6, htt, hp6, htr, ho6, D6⟩ := hcut
        subst htt
        have HTT : Hid (0 ≤ tt ∧ tt ≤ 20000) := htr
        clear htr HZB
        clear D5 ho5
        go_wp2_with fail
        refine (pick_any B R p6 10 _ D6.rd.rd (by omega)).mono ?_
        rintro e w7 ⟨rfl, ra, ga, sa⟩
        have D7 := D6.more ra ga
        have ho7 := owns_grown ho6 ga (fun k e => by cases e; have := D6.rd.lt; omega)
        clear ra ga sa D6 ho6
        generalize pickV R p6 10 = m
        have kwl : IntKind.i64.wrap ((l.length : Int) - 1) = (l.length : Int) - 1 := by rw [IntKind.wrap_i64]; omega
        by_cases h0 : m = 0
        · subst h0
          go_wp2_with fail
          refine (pick_any B R (p6 + 1) 3 _ D7.rd.rd (by omega)).mono ?_
          rintro e w8 ⟨rfl, ra, ga, sa⟩
          have D8 := D7.more ra ga
          have ho8 := owns_grown ho7 ga (fun k e => by cases e; have := D7.rd.lt; omega)
          clear ra ga sa D7 ho7
          generalize pickV R (p6 + 1) 3 = m8
          obtain ⟨⟨e0, e1, e2, e3, e4⟩, ef⟩ := D8.pa.cells
          obtain ⟨⟨f0, f1, f2, f3, f4⟩, ff⟩ := D8.res.cells
          have hXw : X ≠ w.heap.size := by have := D8.ge; omega
          clear hz0 hz1 kk0 kk1 kk2 kk3 kw hr2
          cases hin : inB (wrap64 (wrap64 ((kn : Int) + m8) - 1)) 0 ((l.length : Int) - 1) with
          | false =>
            have HIN : Hid (inB (wrap64 (wrap64 ((kn : Int) + m8) - 1)) 0 ((l.length : Int) - 1) = false) := hin
            clear hin
            go_wp2_with fail
            refine (in_val (wrap64 (wrap64 ((kn : Int) + m8) - 1)) 0 ((l.length : Int) - 1) false _ HIN.out).mono ?_
            rintro e w9 ⟨rfl, rfl⟩
            clear HIN
            generalize wrap64 (wrap64 ((kn : Int) + m8) - 1) = kv
            go_wp2
            clear e0 e1 e2 e3 e4 ef hXw kwl HZL hp hp2 hp2' hp3 k1
            refine bodyPost_ret (v := .tuple #[.agg #[.int .i64 q, .int .i64 s, .slice a l.length cap, .int .i64 fr, .int .i64 b], .int .i64 kv, .int .i64 tt, .int .i64 tt]) (by simp [results, Tryz.results67, go_sem, f0, f1, f2, f3, f4]) rfl ?_
            exact D8.post hcap hlen (by omega) HTT.out.1 _ _ _
          | true =>
            obtain ⟨i1, i2⟩ := (inB_iff _ _ _).1 hin
            obtain ⟨km, hkm⟩ : ∃ km : Nat, wrap64 (wrap64 ((kn : Int) + m8) - 1) = (km : Int) := Int.eq_ofNat_of_zero_le i1
            have hkz : km < zs.length := by have := HZL.out; omega
            obtain ⟨zk, hzk⟩ : ∃ z, zs[km]? = some z := ⟨_, List.getElem?_eq_getElem hkz⟩
            have j0 : (0 : Int) ≤ (km : Int) := by omega
            have j1 : (km : Int) < (zs.length : Int) := by omega
            have HZK : Hid (zs[km]? = some zk) := hzk
            clear hzk hg1 hg2 hf
            have HIN : Hid (inB (wrap64 (wrap64 ((kn : Int) + m8) - 1)) 0 ((l.length : Int) - 1) = true) := hin
            have HKM : Hid (wrap64 (wrap64 ((kn : Int) + m8) - 1) = (km : Int)) := hkm
            clear hin hkm i1 i2 hkz
            go_wp2_with fail
            refine (in_val (wrap64 (wrap64 ((kn : Int) + m8) - 1)) 0 ((l.length : Int) - 1) true _ HIN.out).mono ?_
            rintro e w9 ⟨rfl, rfl⟩
            rw [HKM.out]
            clear HIN HKM
            go_wp2
            clear kwl k1 hl1
            have tk := (ho8.cellAt km (by omega)).trans (intCells_get zs km _ HZK.out)
            have tn : g ≠ w.heap.size := by have := owns_base ho8 g rfl; omega
            go_region
            all_goals
              go_wp2
              clear e0 e1 e2 e3 e4 ef tk tn hXw j0 j1
              refine bodyPost_ret (v := .tuple #[.agg #[.int .i64 q, .int .i64 s, .slice a l.length cap, .int .i64 fr, .int .i64 b], .int .i64 (km : Int), .int .i64 zk, .int .i64 tt]) (by simp [results, Tryz.results67, go_sem, f0, f1, f2, f3, f4]) rfl ?_
              exact D8.drew.post hcap hlen (by omega) HTT.out.1 _ _ _
        · have g0 : (m == 0) = false := beq_eq_false_iff_ne.2 h0
          by_cases h1 : m = 1
          · subst h1
            clear g0 h0
            go_wp2
            obtain ⟨⟨e0, e1, e2, e3, e4⟩, ef⟩ := D7.pa.cells
            have hXw : X ≠ w.heap.size := by have := D7.ge; omega
            have tn : g ≠ w.heap.size := by have := owns_base ho7 g rfl; omega
            have tk := (ho7.cellAt kn (by omega)).trans (intCells_get zs kn _ hz0)
            clear kk2 kk3 kw kwl k1 hl1 hz1 hr2
            have D7d := D7.drew
            have ho7d : w7.drew.ownsRow (w.heap.size + 1) 3 1 (.slice (some ⟨g, 0, none⟩) zs.length dcap) zs.length (intCells zs) := ho7
            have K1 : ∀ W : World, RdAt W B R (p6 + 1) → Calls Tryz.prog 77 #[.pointer (some ⟨B, 0, none⟩), .int .i64 5] W fun e w' => e = .returned (.int .i64 (pickV R (p6 + 1) 5)) ∧ RdAt w' B R (p6 + 1 + 1) ∧ W.grownBy w' (some B) ∧ w'.heap.size = W.heap.size := fun W h => pick_any B R (p6 + 1) 5 W h (by omega)
            generalize pickV R (p6 + 1) 5 = m7 at K1
            have kz : kn < zs.length := by omega
            have HZ0 : Hid (zs[kn]? = some z0) := hz0
            clear hz0 kz
            go_region_with (go_at_call 77; refine (K1 _ D7d.rd.rd).mono ?_; rintro e w8 ⟨rfl, ra, ga, sa⟩; have D8 := D7d.more ra ga; have ho8 := owns_grown ho7d ga (fun k e => by cases e; have := D7d.rd.lt; omega); have y := D8.pa.cells; have y0 := y.1.1; have y1 := y.1.2.1; have y2 := y.1.2.2.1; have y3 := y.1.2.2.2.1; have y4 := y.1.2.2.2.2; have yf := y.2; have f := D8.res.cells; have f0 := f.1.1; have f1 := f.1.2.1; have f2 := f.1.2.2.1; have f3 := f.1.2.2.2.1; have f4 := f.1.2.2.2.2; have ff := f.2; clear y f; have tk8 := (ho8.cellAt kn (by omega)).trans (intCells_get zs kn _ HZ0.out); clear ra ga sa)
            all_goals
              go_wp2
              clear e0 e1 e2 e3 e4 ef tk tn hXw y0 y1 y2 y3 y4 yf tk8 K1
              refine bodyPost_ret (v := .tuple #[.agg #[.int .i64 q, .int .i64 s, .slice a l.length cap, .int .i64 fr, .int .i64 b], .int .i64 (kn : Int), .int .i64 (IntKind.i64.wrap (IntKind.i64.wrap (z0 + m7) - 2)), .int .i64 tt]) (by simp [results, Tryz.results67, go_sem, f0, f1, f2, f3, f4]) rfl ?_
              exact D8.post hcap hlen (by omega) HTT.out.1 _ _ _
          · have g1 : (m == 1) = false := beq_eq_false_iff_ne.2 h1
            by_cases h2 : m = 2
            · subst h2
              clear g0 h0 g1 h1
              go_wp2_with fail
              refine (pick_any B R (p6 + 1) 9 _ D7.rd.rd (by omega)).mono ?_
              rintro e w8 ⟨rfl, ra, ga, sa⟩
              have D8 := D7.more ra ga
              have ho8 := owns_grown ho7 ga (fun k e => by cases e; have := D7.rd.lt; omega)
              clear ra ga sa D7 ho7
              have HTT2 : Hid (0 ≤ wrap64 (tt + pickV R (p6 + 1) 9) ∧ wrap64 (tt + pickV R (p6 + 1) 9) ≤ 30000) := sn_late HTT.out (pickV_nn h.rng (by omega))
              clear HTT
              generalize pickV R (p6 + 1) 9 = m8 at HTT2 ⊢
              obtain ⟨⟨e0, e1, e2, e3, e4⟩, ef⟩ := D8.pa.cells
              obtain ⟨⟨f0, f1, f2, f3, f4⟩, ff⟩ := D8.res.cells
              have hXw : X ≠ w.heap.size := by have := D8.ge; omega
              clear hz0 hz1 kk0 kk1 kk2 kk3 kw hr2
              cases hin : inB ((kn : Int)) 0 ((l.length : Int) - 1) with
              | false =>
                have HIN : Hid (inB ((kn : Int)) 0 ((l.length : Int) - 1) = false) := hin
                clear hin
                go_wp2_with fail
                refine (in_val ((kn : Int)) 0 ((l.length : Int) - 1) false _ HIN.out).mono ?_
                rintro e w9 ⟨rfl, rfl⟩
                clear HIN
                generalize wrap64 (tt + m8) = tu at HTT2 ⊢
                generalize (kn : Int) = kv
                go_wp2
                clear e0 e1 e2 e3 e4 ef hXw kwl HZL hp hp2 hp2' hp3 k1
                refine bodyPost_ret (v := .tuple #[.agg #[.int .i64 q, .int .i64 s, .slice a l.length cap, .int .i64 fr, .int .i64 b], .int .i64 kv, .int .i64 tu, .int .i64 tu]) (by simp [results, Tryz.results67, go_sem, f0, f1, f2, f3, f4]) rfl ?_
                exact D8.post hcap hlen (by omega) HTT2.out.1 _ _ _
              | true =>
                obtain ⟨i1, i2⟩ := (inB_iff _ _ _).1 hin
                obtain ⟨km, hkm⟩ : ∃ km : Nat, (kn : Int) = (km : Int) := Int.eq_ofNat_of_zero_le i1
                have hkz : km < zs.length := by have := HZL.out; omega
                obtain ⟨zk, hzk⟩ : ∃ z, zs[km]? = some z := ⟨_, List.getElem?_eq_getElem hkz⟩
                have j0 : (0 : Int) ≤ (km : Int) := by omega
                have j1 : (km : Int) < (zs.length : Int) := by omega
                have HZK : Hid (zs[km]? = some zk) := hzk
                clear hzk hg1 hg2 hf
                have HIN : Hid (inB ((kn : Int)) 0 ((l.length : Int) - 1) = true) := hin
                have HKM : Hid ((kn : Int) = (km : Int)) := hkm
                clear hin hkm i1 i2 hkz
                go_wp2_with fail
                refine (in_val ((kn : Int)) 0 ((l.length : Int) - 1) true _ HIN.out).mono ?_
                rintro e w9 ⟨rfl, rfl⟩
                rw [HKM.out]
                clear HIN HKM
                generalize wrap64 (tt + m8) = tu at HTT2 ⊢
                go_wp2
                clear kwl k1 hl1
                have tk := (ho8.cellAt km (by omega)).trans (intCells_get zs km _ HZK.out)
                have tn : g ≠ w.heap.size := by have := owns_base ho8 g rfl; omega
                go_region
                all_goals
                  go_wp2
                  clear e0 e1 e2 e3 e4 ef tk tn hXw j0 j1
                  refine bodyPost_ret (v := .tuple #[.agg #[.int .i64 q, .int .i64 s, .slice a l.length cap, .int .i64 fr, .int .i64 b], .int .i64 (km : Int), .int .i64 zk, .int .i64 tu]) (by simp [results, Tryz.results67, go_sem, f0, f1, f2, f3, f4]) rfl ?_
                  exact D8.drew.post hcap hlen (by omega) HTT2.out.1 _ _ _
            · have g2 : (m == 2) = false := beq_eq_false_iff_ne.2 h2
              have D8 := D7
              have ho8 := ho7
              clear D7 ho7
              obtain ⟨⟨e0, e1, e2, e3, e4⟩, ef⟩ := D8.pa.cells
              obtain ⟨⟨f0, f1, f2, f3, f4⟩, ff⟩ := D8.res.cells
              have hXw : X ≠ w.heap.size := by have := D8.ge; omega
              clear hz0 hz1 kk0 kk1 kk2 kk3 kw hr2
              cases hin : inB ((kn : Int)) 0 ((l.length : Int) - 1) with
              | false =>
                have HIN : Hid (inB ((kn : Int)) 0 ((l.length : Int) - 1) = false) := hin
                clear hin
                go_wp2_with fail
                refine (in_val ((kn : Int)) 0 ((l.length : Int) - 1) false _ HIN.out).mono ?_
                rintro e w9 ⟨rfl, rfl⟩
                clear HIN
                generalize (kn : Int) = kv
                go_wp2
                clear e0 e1 e2 e3 e4 ef hXw kwl HZL hp hp2 hp2' hp3 k1
                refine bodyPost_ret (v := .tuple #[.agg #[.int .i64 q, .int .i64 s, .slice a l.length cap, .int .i64 fr, .int .i64 b], .int .i64 kv, .int .i64 tt, .int .i64 tt]) (by simp [results, Tryz.results67, go_sem, f0, f1, f2, f3, f4]) rfl ?_
                exact D8.post hcap hlen (by omega) HTT.out.1 _ _ _
              | true =>
                obtain ⟨i1, i2⟩ := (inB_iff _ _ _).1 hin
                obtain ⟨km, hkm⟩ : ∃ km : Nat, (kn : Int) = (km : Int) := Int.eq_ofNat_of_zero_le i1
                have hkz : km < zs.length := by have := HZL.out; omega
                obtain ⟨zk, hzk⟩ : ∃ z, zs[km]? = some z := ⟨_, List.getElem?_eq_getElem hkz⟩
                have j0 : (0 : Int) ≤ (km : Int) := by omega
                have j1 : (km : Int) < (zs.length : Int) := by omega
                have HZK : Hid (zs[km]? = some zk) := hzk
                clear hzk hg1 hg2 hf
                have HIN : Hid (inB ((kn : Int)) 0 ((l.length : Int) - 1) = true) := hin
                have HKM : Hid ((kn : Int) = (km : Int)) := hkm
                clear hin hkm i1 i2 hkz
                go_wp2_with fail
                refine (in_val ((kn : Int)) 0 ((l.length : Int) - 1) true _ HIN.out).mono ?_
                rintro e w9 ⟨rfl, rfl⟩
                rw [HKM.out]
                clear HIN HKM
                go_wp2
                clear kwl k1 hl1
                have tk := (ho8.cellAt km (by omega)).trans (intCells_get zs km _ HZK.out)
                have tn : g ≠ w.heap.size := by have := owns_base ho8 g rfl; omega
                go_region
                all_goals
                  go_wp2
                  clear e0 e1 e2 e3 e4 ef tk tn hXw j0 j1
                  refine bodyPost_ret (v := .tuple #[.agg #[.int .i64 q, .int .i64 s, .slice a l.length cap, .int .i64 fr, .int .i64 b], .int .i64 (km : Int), .int .i64 zk, .int .i64 tt]) (by simp [results, Tryz.results67, go_sem, f0, f1, f2, f3, f4]) rfl ?_
                  exact D8.drew.post hcap hlen (by omega) HTT.out.1 _ _ _
end Go.Proofs.YtijcdikekgmfoaaGreatDoor

namespace Go.Proofs.YtijcdikekgmfoaaGreatDoor
open Go.RowKit

/-- What is drawn: a path of its own. -/
def OtherPost (w : World) (B : Nat) (R : Rdr) (p : Nat) (e : Ending) (w' : World) : Prop :=
  ∃ q s fr b v l p', e = .returned (.agg #[.int .i64 q, .int .i64 s, v, .int .i64 fr, .int .i64 b]) ∧ l.length ≤ 46 ∧ w'.ownsRow w.heap.size 44 7 v l.length (stepCells l) ∧ p' ≤ p + 5100 ∧ RdW w w' B R p'
section
variable {w wr : World} {B : Nat} {R : Rdr} {p p' Z X : Nat} {q s fr b : Int} {v : Value} {l : List Stp}
theorem SpD.postO (h : SpD w wr B R p' Z X q s fr b v l) (hl : l.length ≤ 46) (hp : p' ≤ p + 5100) :
    OtherPost w B R p (.returned (.agg #[.int .i64 q, .int .i64 s, v, .int .i64 fr, .int .i64 b])) (((((wr.setCell ⟨Z, 0, none⟩ (.int .i64 q)).setCell ⟨Z, 1, none⟩ (.int .i64 s)).setCell ⟨Z, 2, none⟩ v).setCell ⟨Z, 3, none⟩ (.int .i64 fr)).setCell ⟨Z, 4, none⟩ (.int .i64 b)) := by
  have hge := h.ge
  refine ⟨q, s, fr, b, v, l, p', rfl, hl, ?_, hp, ?_⟩
  · have hh : ∀ k, v.ownBlock = some k → k ≠ Z := fun k e => by have := (h.gX k e).2; omega
    iterate 5 (refine owns_set ?_ hh _ _)
    exact ⟨h.own.1, h.own.2.imp id fun ⟨g, cap, cur, h1, h2, h3⟩ => ⟨g, cap, cur, h1, by omega, h3⟩⟩
  · iterate 5 (refine RdW.set ?_ hge _ _)
    exact h.rd
/-- A block beside is turned. -/
theorem SpD.setO (h : SpD w wr B R p Z X q s fr b v l) {S : Nat} (h1 : Z < S) (h2 : X ≠ S) (h3 : ∀ k, v.ownBlock = some k → k ≠ S) (j : Nat) (u : Value) : SpD w (wr.setCell ⟨S, j, none⟩ u) B R p Z X q s fr b v l := by
  have hge := h.ge
  exact ⟨h.rd.set (by omega) _ u, h.ge, h.lt, h.res.set (by show Z ≠ S; omega) u, h.pa.set (by show X ≠ S; omega) u, owns_set h.own h3 j u⟩
/-- A step of the list is turned by a number. -/
theorem SpD.putI {g gc : Nat} (h : SpD w wr B R p Z X q s fr b (.slice (some ⟨g, 0, none⟩) l.length gc) l) {i j : Nat} {t : Stp} (ht : l[i]? = some t) (hj : j < 6) (z : Int) :
    ∃ l' : List Stp, l'.length = l.length ∧ SpD w (wr.setCell ⟨g, i * 7 + j, none⟩ (.int .i64 z)) B R p Z X q s fr b (.slice (some ⟨g, 0, none⟩) l'.length gc) l' := by
  obtain ⟨t', he⟩ := cells_put t hj z
  refine ⟨l.set i t', by simp, ?_⟩
  rw [List.length_set]
  exact h.put ht (by omega) he
end
section
variable {Q : Exit → Act → World → Prop} {w : World} {B : Nat} {R : Rdr} {p : Nat} {ops : Array Oper} {fin : Act → Prop}
/-- A region that only reads, up to N, with calls that turn nothing. -/
theorem region_pures {id : Nat} {a : Act} {l : List Oper} (N : Nat) (L0 L1 : Array Bool) (hRd : RdAt w B R p) (hm : Tryz.prog.follows .mixedOrders = true) (hs : Region.noSelect l.toArray = true) (hN : N ≤ l.length) (hL0 : Array.replicate l.length false = L0) (hL1 : listN L0 0 N = L1) (hlex : lexM .any l.toArray N N 0 L0 = true)
    (h : wpMoves Tryz.prog .any l.toArray (fun _ => StayC w B R p) (fun a' => ∀ w', w.grownBy w' (some B) → w'.heap.size = w.heap.size → RdAt w' B R p → wpAny Tryz.prog .any l.toArray Q (l.length - N) L1 a' w') (l.take N) 0 a) :
    (Code.region id l.toArray true).wp Tryz.prog Q a w := by
  refine wp_region_moves_at (C := fun _ => StayC w B R p) N L0 L1 hm hs (by simpa using hN) (by simpa using hL0) hL1 hlex ⟨grown_drew (grown_refl _ _), rfl, hRd.below (k := B + 1) ⟨rfl, rfl, rfl, Nat.le_refl _, fun _ _ => rfl⟩ (Nat.lt_succ_self _)⟩ ?_
  refine wpMoves_mono (fun a' h' w' hC => ?_) _ _ _ h
  simpa using h' w' hC.gr hC.sz hC.rd
theorem st_quiet {l : List Oper} {k : Nat} {a : Act} (m : Nat) (hp : ((l.take m).all fun o => plainOp o.op) = true)
    (h : wpQuiet Tryz.prog ops (fun w' => ∃ u : ClsR w B, w' = u.it) (fun a' => wpMoves Tryz.prog .any ops (fun _ => StayC w B R p) fin (l.drop m) (k + (l.take m).length) a') (l.take m) a) : wpMoves Tryz.prog .any ops (fun _ => StayC w B R p) fin l k a := by
  rw [← List.take_append_drop m l]
  exact moves_quiet (U := fun w' => ∃ u : ClsR w B, w' = u.it) [] (fun L w' _ h => ⟨⟨w', h.gr⟩, rfl⟩) (l.take m) k a hp (by simp) (fun _ _ _ _ _ hC => hC) h
theorem st_pure {rest : List Oper} {o : Oper} {a : Act} {k : Nat} {f : FuncId} {args : Array Value} (v : Value) (hg : o.guard = none)
    (h1 : ∀ W, (execOp a.eval o).run Tryz.prog W = .ok (.enter f args) W) (hf : ∀ W, Calls Tryz.prog f args W fun e w' => e = .returned v ∧ w' = W)
    (h2 : wpMoves Tryz.prog .any ops (fun _ => StayC w B R p) fin rest (k + 1) (a.put o.dst v)) : wpMoves Tryz.prog .any ops (fun _ => StayC w B R p) fin (o :: rest) k a := by
  refine moves_one v hg (fun L w' _ _ hC => ?_) h2
  rw [h1]
  refine (hf w').mono ?_
  rintro e w'' ⟨rfl, rfl⟩
  exact ⟨rfl, hC⟩
end
end Go.Proofs.YtijcdikekgmfoaaGreatDoor

namespace Go.Proofs.YtijcdikekgmfoaaGreatDoor
open Go.RowKit

set_option maxRecDepth 20000 in
set_option maxHeartbeats 4000000 in
theorem other_0 (B : Nat) (R : Rdr) (p : Nat) (q s fr b : Int) (a : Option Addr) (b0 o cap : Nat) (l : List Stp) (w : World) (h : RdAt w B R p) (hp : p ≤ 999900000) (hl0 : 1 ≤ l.length) (hl : l.length ≤ 41) (hs : StepsAt w a b0 o l) (hbB : l ≠ [] → b0 ≠ B) (hm : pickV R (p + 1) 4 = 0) :
    Calls Tryz.prog 76 #[.pointer (some ⟨B, 0, none⟩), .agg #[.int .i64 q, .int .i64 s, .slice a l.length cap, .int .i64 fr, .int .i64 b]] w (OtherPost w B R p) := by
  have HM : Hid (pickV R (p + 1) 4 = 0) := hm
  clear hm
  have hB := lt_of_block h.blk
  have R0 := ((RdW.refl h).alloc (.cells #[.int .i64 q, .int .i64 s, .slice a l.length cap, .int .i64 fr, .int .i64 b] 27)).alloc (.cells #[.int .i64 0, .int .i64 0, .slice none 0 0, .int .i64 0, .int .i64 0] 27)
  have P0 := PathAt.new (w.alloc (.cells #[.int .i64 q, .int .i64 s, .slice a l.length cap, .int .i64 fr, .int .i64 b] 27)) 0 0 0 0 (.slice none 0 0)
  rw [World.size_alloc] at P0
  have Q0 := (PathAt.new w q s fr b (.slice a l.length cap)).keep ((Below.refl _ _).alloc (Nat.le_refl _) (.cells #[.int .i64 0, .int .i64 0, .slice none 0 0, .int .i64 0, .int .i64 0] 27)) (by simp)
  have b3 : ((l.length : Int) == 0) = false := beq_eq_false_iff_ne.2 (by omega)
  go_enter Tryz.func76, Tryz.ntmps76
  go_wp2_with fail
  refine (pick_any B R p (l.length : Int) _ R0.rd (by omega)).mono ?_
  rintro e w1 ⟨rfl, r1, g1, s1⟩
  have R1 := R0.more r1 g1
  have P1 := P0.grown g1 (by simp; omega)
  have Q1 := Q0.grown g1 (by simp; omega)
  have hs1 := ((hs.alloc (.cells #[.int .i64 q, .int .i64 s, .slice a l.length cap, .int .i64 fr, .int .i64 b] 27)).alloc (.cells #[.int .i64 0, .int .i64 0, .slice none 0 0, .int .i64 0, .int .i64 0] 27)).grown g1 (fun hn e => hbB hn (by cases e; rfl))
  obtain ⟨kn, hkn⟩ : ∃ kn : Nat, pickV R p (l.length : Int) = (kn : Int) := Int.eq_ofNat_of_zero_le (pickV_range h.rng (by omega) (by omega)).1
  have hk := (pickV_range (n := (l.length : Int)) h.rng (show p ≤ 1000000000 by omega) (by omega)).2
  rw [hkn] at hk ⊢
  have hz1 : w1.heap.size = w.heap.size + 1 + 1 := by rw [s1]; simp
  have Hz1 : Hid (w1.heap.size = w.heap.size + 1 + 1) := hz1
  clear hkn r1 g1 s1 R0 P0 Q0 hz1
  have k0 : (0 : Int) ≤ (kn : Int) := by omega
  have hkl : kn < l.length := by omega
  obtain ⟨⟨e0, e1, e2, e3, e4⟩, ef⟩ := Q1.cells
  go_wp2_with fail
  refine (copyS_any q s fr b a b0 o cap l _ hl0 (by omega) hs1).mono ?_
  rintro e w2 ⟨g, gc, rfl, ho2, hb2⟩
  have R2 := R1.below hb2
  have P2 := P1.keep hb2 P1.lt
  have ho2' : w2.ownsRow (w.heap.size + 1 + 1) 44 7 (.slice (some ⟨g, 0, none⟩) l.length gc) l.length (stepCells l) := by rw [← Hz1.out]; exact ho2
  have D1 : SpD w (w2.alloc (.cells #[.int .i64 q, .int .i64 s, (.slice (some ⟨g, 0, none⟩) l.length gc), .int .i64 fr, .int .i64 b] 27)) B R (p + 1) (w.heap.size + 1) w2.heap.size q s fr b (.slice (some ⟨g, 0, none⟩) l.length gc) l :=
    ⟨R2.alloc _, by omega, P2.lt, P2.keep ((Below.refl _ _).alloc (Nat.le_refl _) _) P2.lt, PathAt.new w2 q s fr b _, owns_below ho2' ((Below.refl _ _).alloc (Nat.le_refl _) _)⟩
  clear R1 P1 R2 P2 ho2 ho2' hb2 Q1 e0 e1 e2 e3 e4 ef hs1 Hz1
  go_wp2_with fail
  refine (pick_any B R (p + 1) 4 _ D1.rd.rd (by omega)).mono ?_
  rintro e w3 ⟨rfl, r3, g3, s3⟩
  have D2 := D1.more r3 g3
  clear D1 r3 g3 s3
  generalize w2.heap.size = X at *
  have hZX : w.heap.size + 1 ≠ X := by have := D2.lt; omega
  rw [HM.out]
  clear HM
  have hpz : p + 1 + 1 ≤ 999900002 := by omega
  go_wp2
  go_loopw [7] (fun s7 wr => ∃ (i p' : Nat) (l' : List Stp), s7 = .int .i64 (i : Int) ∧ l'.length ≤ 41 ∧ i ≤ 42 ∧ p' ≤ p + 2 + i ∧ SpD w wr B R p' (w.heap.size + 1) X q s fr b (.slice (some ⟨g, 0, none⟩) l'.length gc) l') (fun s7 _ => 46 - (intOf s7).toNat)
  case atStart => exact ⟨kn, p + 1 + 1, l, rfl, by omega, by omega, by omega, D2⟩
  case round =>
    obtain ⟨i, p', l, hu, hl41, hi42, hp', D1⟩ := hrel
    subst hu
    clear D2
    obtain ⟨⟨e0, e1, e2, e3, e4⟩, ef⟩ := D1.pa.cells
    obtain ⟨hXB, hZB, hBZ⟩ := D1.xB
    have i0 : (0 : Int) ≤ (i : Int) := by omega
    by_cases hlt : (i : Int) < (l.length : Int)
    · have hil : i < l.length := by omega
      go_wp2
      clear e0 e1 e2 e3 e4 ef
      obtain ⟨⟨e0, e1, e2, e3, e4⟩, ef⟩ := D1.pa.cells
      have hgB : g ≠ B := by have := (D1.gX g rfl).2; omega
      have hgl : g < wr.heap.size := owns_lt D1.own g rfl
      obtain ⟨t, HT⟩ : ∃ t, Hid (l[i]? = some t) := ⟨_, List.getElem?_eq_getElem hil⟩
      have x5 := (D1.own.cellAt (i * 7 + 5) (by omega)).trans (stepCells_at l i t 5 HT.out (by decide))
      have qn := ClsR.any wr B
      have q0 : ∀ u : ClsR wr B, u.it.cell? ⟨X, 2, none⟩ = some (.slice (some ⟨g, 0, none⟩) l.length gc) := fun u => (ClsR.cell D1.pa.lt hXB u 2).trans e2
      have y5 : ∀ u : ClsR wr B, u.it.cell? ⟨g, i * 7 + 5, none⟩ = some (.int .i64 t.by_) := fun u => (ClsR.cell hgl hgB u _).trans x5
      refine region_picks 10 15 _ _ D1.rd.rd (by kernel_rfl) (by kernel_rfl) (by decide) (by decide) rfl rfl rfl (by kernel_rfl) ?_
      refine pc_quiet 10 rfl (by omega) ?_
      simp only [List.take_succ_cons, List.take_zero]
      repeat (go_big_quiet_step (fail))
      refine wpQuiet_nil ?_
      simp only [List.drop_succ_cons, List.drop_zero]
      refine pc_pick (by omega) rfl 9 (fun W' => by go_simp) ?_
      generalize pickV R (p') 9 = m
      simp only [Act.put, List.setIfInBounds_toArray, List.set_cons_succ, List.set_cons_zero]
      refine pc_quiet 1 rfl (by omega) ?_
      simp only [List.take_succ_cons, List.take_zero]
      repeat (go_big_quiet_step (fail))
      refine wpQuiet_nil ?_
      simp only [List.drop_succ_cons, List.drop_zero]
      refine pc_pure (f := 40) (args := #[.int .i64 (wrap64 (t.by_ + m)), .int .i64 10000]) (.int .i64 (mnB (wrap64 (t.by_ + m)) 10000)) rfl (by decide) (fun W' => by go_simp) (fun W' => min_any _ _ W') ?_
      generalize mnB (wrap64 (t.by_ + m)) 10000 = z
      simp only [Act.put, List.setIfInBounds_toArray, List.set_cons_succ, List.set_cons_zero]
      refine pc_quiet 2 rfl (by omega) ?_
      simp only [List.take_succ_cons, List.take_zero]
      repeat (go_big_quiet_step (fail))
      refine wpQuiet_nil ?_
      refine wpMoves_nil ?_
      intro w4 g4 s4 r4
      have DM := D1.more r4 g4
      clear q0 qn y5 x5 e0 e1 e2 e3 e4 ef D1 r4 g4 s4 hgl hgB
      refine any_end1 (N := 15) _ rfl (by kernel_rfl) (by kernel_rfl) rfl rfl ?_
      obtain ⟨u0, hc⟩ := some_get (DM.own.cellAt (i * 7 + 5) (by omega)) DM.own.1 (by omega)
      have hf := DM.own.frozenAt
      obtain ⟨l2, hl2, D3⟩ := DM.putI HT.out (j := 5) (by decide) z
      have HL2 : Hid (l2.length = l.length) := hl2
      clear DM hl2
      unfold Oper.wp
      go_simp
      clear hc hf HT
      generalize w4.setCell ⟨g, i * 7 + 5, none⟩ (.int .i64 z) = w5 at *
      have HIL : Hid (i ≤ 41) := by show _ ≤ _; omega
      clear hlt hil
      go_wp2
      go_roundw
      case rel => exact ⟨i + 1, p' + 1, l2, by simp, by have := HL2.out; omega, by have := HIL.out; omega, by omega, D3⟩
      case measure => simp [intOf]; omega
    · go_wp2
      have qn := ClsR.any wr B
      have q0 : ∀ u : ClsR wr B, u.it.cell? ⟨X, 4, none⟩ = some (.int .i64 b) := fun u => (ClsR.cell D1.pa.lt hXB u 4).trans e4
      refine region_picks 3 7 _ _ D1.rd.rd (by kernel_rfl) (by kernel_rfl) (by decide) (by decide) rfl rfl rfl (by kernel_rfl) ?_
      refine pc_quiet 3 rfl (by omega) ?_
      simp only [List.take_succ_cons, List.take_zero]
      repeat (go_big_quiet_step (fail))
      refine wpQuiet_nil ?_
      simp only [List.drop_succ_cons, List.drop_zero]
      refine pc_pick (by omega) rfl 20 (fun W' => by go_simp) ?_
      generalize pickV R (p') 20 = m
      simp only [Act.put, List.setIfInBounds_toArray, List.set_cons_succ, List.set_cons_zero]
      refine pc_quiet 1 rfl (by omega) ?_
      simp only [List.take_succ_cons, List.take_zero]
      repeat (go_big_quiet_step (fail))
      refine wpQuiet_nil ?_
      simp only [List.drop_succ_cons, List.drop_zero]
      refine pc_pure (f := 40) (args := #[.int .i64 (wrap64 (b + m)), .int .i64 10000]) (.int .i64 (mnB (wrap64 (b + m)) 10000)) rfl (by decide) (fun W' => by go_simp) (fun W' => min_any _ _ W') ?_
      generalize mnB (wrap64 (b + m)) 10000 = z
      simp only [Act.put, List.setIfInBounds_toArray, List.set_cons_succ, List.set_cons_zero]
      refine pc_quiet 1 rfl (by omega) ?_
      simp only [List.take_succ_cons, List.take_zero]
      repeat (go_big_quiet_step (fail))
      refine wpQuiet_nil ?_
      refine wpMoves_nil ?_
      intro w4 g4 s4 r4
      have DM := D1.more r4 g4
      clear q0 qn e0 e1 e2 e3 e4 ef D1 r4 g4 s4
      refine any_end1 (N := 7) _ rfl (by kernel_rfl) (by kernel_rfl) rfl rfl ?_
      have D3 := DM.setX 4 (.int .i64 z) (q' := q) (s' := s) (fr' := fr) (b' := z) (v' := .slice (some ⟨g, 0, none⟩) l.length gc) rfl DM.own (fun k e => (DM.gX k e).1)
      obtain ⟨⟨e0, e1, e2, e3, e4⟩, ef⟩ := DM.pa.cells
      unfold Oper.wp
      go_simp
      clear e0 e1 e2 e3 e4 ef DM
      generalize w4.setCell ⟨X, 4, none⟩ (.int .i64 z) = w5 at *
      obtain ⟨⟨e0, e1, e2, e3, e4⟩, ef⟩ := D3.pa.cells
      obtain ⟨⟨f0, f1, f2, f3, f4⟩, ff⟩ := D3.res.cells
      go_wp2
      refine bodyPost_ret (v := .agg #[.int .i64 q, .int .i64 s, .slice (some ⟨g, 0, none⟩) l.length gc, .int .i64 fr, .int .i64 z]) (by simp [results, Tryz.results76, go_sem, f0, f1, f2, f3, f4]) rfl ?_
      exact D3.postO (by omega) (by omega)
end Go.Proofs.YtijcdikekgmfoaaGreatDoor

namespace Go.Proofs.YtijcdikekgmfoaaGreatDoor
open Go.RowKit

set_option maxRecDepth 20000 in
set_option maxHeartbeats 4000000 in
theorem other_1 (B : Nat) (R : Rdr) (p : Nat) (q s fr b : Int) (a : Option Addr) (b0 o cap : Nat) (l : List Stp) (w : World) (h : RdAt w B R p) (hp : p ≤ 999900000) (hl0 : 1 ≤ l.length) (hl : l.length ≤ 41) (hs : StepsAt w a b0 o l) (hbB : l ≠ [] → b0 ≠ B) (hm : pickV R (p + 1) 4 = 1) :
    Calls Tryz.prog 76 #[.pointer (some ⟨B, 0, none⟩), .agg #[.int .i64 q, .int .i64 s, .slice a l.length cap, .int .i64 fr, .int .i64 b]] w (OtherPost w B R p) := by
  have HM : Hid (pickV R (p + 1) 4 = 1) := hm
  clear hm
  have hB := lt_of_block h.blk
  have R0 := ((RdW.refl h).alloc (.cells #[.int .i64 q, .int .i64 s, .slice a l.length cap, .int .i64 fr, .int .i64 b] 27)).alloc (.cells #[.int .i64 0, .int .i64 0, .slice none 0 0, .int .i64 0, .int .i64 0] 27)
  have P0 := PathAt.new (w.alloc (.cells #[.int .i64 q, .int .i64 s, .slice a l.length cap, .int .i64 fr, .int .i64 b] 27)) 0 0 0 0 (.slice none 0 0)
  rw [World.size_alloc] at P0
  have Q0 := (PathAt.new w q s fr b (.slice a l.length cap)).keep ((Below.refl _ _).alloc (Nat.le_refl _) (.cells #[.int .i64 0, .int .i64 0, .slice none 0 0, .int .i64 0, .int .i64 0] 27)) (by simp)
  have b3 : ((l.length : Int) == 0) = false := beq_eq_false_iff_ne.2 (by omega)
  go_enter Tryz.func76, Tryz.ntmps76
  go_wp2_with fail
  refine (pick_any B R p (l.length : Int) _ R0.rd (by omega)).mono ?_
  rintro e w1 ⟨rfl, r1, g1, s1⟩
  have R1 := R0.more r1 g1
  have P1 := P0.grown g1 (by simp; omega)
  have Q1 := Q0.grown g1 (by simp; omega)
  have hs1 := ((hs.alloc (.cells #[.int .i64 q, .int .i64 s, .slice a l.length cap, .int .i64 fr, .int .i64 b] 27)).alloc (.cells #[.int .i64 0, .int .i64 0, .slice none 0 0, .int .i64 0, .int .i64 0] 27)).grown g1 (fun hn e => hbB hn (by cases e; rfl))
  obtain ⟨kn, hkn⟩ : ∃ kn : Nat, pickV R p (l.length : Int) = (kn : Int) := Int.eq_ofNat_of_zero_le (pickV_range h.rng (by omega) (by omega)).1
  have hk := (pickV_range (n := (l.length : Int)) h.rng (show p ≤ 1000000000 by omega) (by omega)).2
  rw [hkn] at hk ⊢
  have hz1 : w1.heap.size = w.heap.size + 1 + 1 := by rw [s1]; simp
  have Hz1 : Hid (w1.heap.size = w.heap.size + 1 + 1) := hz1
  clear hkn r1 g1 s1 R0 P0 Q0 hz1
  have k0 : (0 : Int) ≤ (kn : Int) := by omega
  have hkl : kn < l.length := by omega
  obtain ⟨⟨e0, e1, e2, e3, e4⟩, ef⟩ := Q1.cells
  go_wp2_with fail
  refine (copyS_any q s fr b a b0 o cap l _ hl0 (by omega) hs1).mono ?_
  rintro e w2 ⟨g, gc, rfl, ho2, hb2⟩
  have R2 := R1.below hb2
  have P2 := P1.keep hb2 P1.lt
  have ho2' : w2.ownsRow (w.heap.size + 1 + 1) 44 7 (.slice (some ⟨g, 0, none⟩) l.length gc) l.length (stepCells l) := by rw [← Hz1.out]; exact ho2
  have D1 : SpD w (w2.alloc (.cells #[.int .i64 q, .int .i64 s, (.slice (some ⟨g, 0, none⟩) l.length gc), .int .i64 fr, .int .i64 b] 27)) B R (p + 1) (w.heap.size + 1) w2.heap.size q s fr b (.slice (some ⟨g, 0, none⟩) l.length gc) l :=
    ⟨R2.alloc _, by omega, P2.lt, P2.keep ((Below.refl _ _).alloc (Nat.le_refl _) _) P2.lt, PathAt.new w2 q s fr b _, owns_below ho2' ((Below.refl _ _).alloc (Nat.le_refl _) _)⟩
  clear R1 P1 R2 P2 ho2 ho2' hb2 Q1 e0 e1 e2 e3 e4 ef hs1 Hz1
  go_wp2_with fail
  refine (pick_any B R (p + 1) 4 _ D1.rd.rd (by omega)).mono ?_
  rintro e w3 ⟨rfl, r3, g3, s3⟩
  have D2 := D1.more r3 g3
  clear D1 r3 g3 s3
  generalize w2.heap.size = X at *
  have hZX : w.heap.size + 1 ≠ X := by have := D2.lt; omega
  rw [HM.out]
  clear HM
  go_wp2_with fail
  refine (pick_any B R (p + 1 + 1) 7 _ D2.rd.rd (by omega)).mono ?_
  rintro e w4 ⟨rfl, r4, g4, s4⟩
  have D3 := D2.more r4 g4
  clear D2 r4 g4 s4
  generalize pickV R (p + 1 + 1) 7 = d
  go_wp2
  go_loopw [9] (fun s9 wr => ∃ (i p' : Nat) (l' : List Stp), s9 = .int .i64 (i : Int) ∧ l'.length ≤ 41 ∧ i ≤ 42 ∧ p' ≤ p + 3 + i ∧ SpD w wr B R p' (w.heap.size + 1) X q s fr b (.slice (some ⟨g, 0, none⟩) l'.length gc) l') (fun s9 _ => 46 - (intOf s9).toNat)
  case atStart => exact ⟨kn, p + 1 + 1 + 1, l, rfl, by omega, by omega, by omega, D3⟩
  case round =>
    obtain ⟨i, p', l, hu, hl41, hi42, hp', D1⟩ := hrel
    subst hu
    clear D3
    obtain ⟨⟨e0, e1, e2, e3, e4⟩, ef⟩ := D1.pa.cells
    obtain ⟨hXB, hZB, hBZ⟩ := D1.xB
    have i0 : (0 : Int) ≤ (i : Int) := by omega
    by_cases hlt : (i : Int) < (l.length : Int)
    · have hil : i < l.length := by omega
      go_wp2
      clear e0 e1 e2 e3 e4 ef
      obtain ⟨⟨e0, e1, e2, e3, e4⟩, ef⟩ := D1.pa.cells
      have hgB : g ≠ B := by have := (D1.gX g rfl).2; omega
      have hgl : g < wr.heap.size := owns_lt D1.own g rfl
      obtain ⟨t, HT⟩ : ∃ t, Hid (l[i]? = some t) := ⟨_, List.getElem?_eq_getElem hil⟩
      have x5 := (D1.own.cellAt (i * 7 + 4) (by omega)).trans (stepCells_at l i t 4 HT.out (by decide))
      have qn := ClsR.any wr B
      have q0 : ∀ u : ClsR wr B, u.it.cell? ⟨X, 2, none⟩ = some (.slice (some ⟨g, 0, none⟩) l.length gc) := fun u => (ClsR.cell D1.pa.lt hXB u 2).trans e2
      have y5 : ∀ u : ClsR wr B, u.it.cell? ⟨g, i * 7 + 4, none⟩ = some (.int .i64 t.fr) := fun u => (ClsR.cell hgl hgB u _).trans x5
      refine region_pures 14 _ _ D1.rd.rd (by kernel_rfl) (by kernel_rfl) (by decide) rfl rfl (by kernel_rfl) ?_
      refine st_quiet 11 rfl ?_
      simp only [List.take_succ_cons, List.take_zero]
      repeat (go_big_quiet_step (fail))
      refine wpQuiet_nil ?_
      simp only [List.drop_succ_cons, List.drop_zero]
      refine st_pure (f := 40) (args := #[.int .i64 (wrap64 (t.fr + d)), .int .i64 10000]) (.int .i64 (mnB (wrap64 (t.fr + d)) 10000)) rfl (fun W' => by go_simp) (fun W' => min_any _ _ W') ?_
      generalize mnB (wrap64 (t.fr + d)) 10000 = z
      simp only [Act.put, List.setIfInBounds_toArray, List.set_cons_succ, List.set_cons_zero]
      refine st_quiet 2 rfl ?_
      simp only [List.take_succ_cons, List.take_zero]
      repeat (go_big_quiet_step (fail))
      refine wpQuiet_nil ?_
      refine wpMoves_nil ?_
      intro w4 g4 s4 r4
      have DM := D1.more r4 g4
      clear q0 qn y5 x5 e0 e1 e2 e3 e4 ef D1 r4 g4 s4 hgl hgB
      refine any_end1 (N := 14) _ rfl (by kernel_rfl) (by kernel_rfl) rfl rfl ?_
      obtain ⟨u0, hc⟩ := some_get (DM.own.cellAt (i * 7 + 4) (by omega)) DM.own.1 (by omega)
      have hf := DM.own.frozenAt
      obtain ⟨l2, hl2, D3⟩ := DM.putI HT.out (j := 4) (by decide) z
      have HL2 : Hid (l2.length = l.length) := hl2
      clear DM hl2
      unfold Oper.wp
      go_simp
      clear hc hf HT
      generalize w4.setCell ⟨g, i * 7 + 4, none⟩ (.int .i64 z) = w5 at *
      obtain ⟨l, hle⟩ : ∃ l, l2 = l := ⟨_, rfl⟩
      subst hle
      have hil : i < l2.length := by have := HL2.out; omega
      have hl41 : l2.length ≤ 41 := by have := HL2.out; omega
      have hlt : (i : Int) < (l2.length : Int) := by omega
      clear HL2
      go_wp2
      obtain ⟨⟨e0, e1, e2, e3, e4⟩, ef⟩ := D3.pa.cells
      have hgB : g ≠ B := by have := (D3.gX g rfl).2; omega
      have hgl : g < w5.heap.size := owns_lt D3.own g rfl
      obtain ⟨t, HT⟩ : ∃ t, Hid (l2[i]? = some t) := ⟨_, List.getElem?_eq_getElem hil⟩
      have x5 := (D3.own.cellAt (i * 7 + 5) (by omega)).trans (stepCells_at l2 i t 5 HT.out (by decide))
      have qn := ClsR.any w5 B
      have q0 : ∀ u : ClsR w5 B, u.it.cell? ⟨X, 2, none⟩ = some (.slice (some ⟨g, 0, none⟩) l2.length gc) := fun u => (ClsR.cell D3.pa.lt hXB u 2).trans e2
      have y5 : ∀ u : ClsR w5 B, u.it.cell? ⟨g, i * 7 + 5, none⟩ = some (.int .i64 t.by_) := fun u => (ClsR.cell hgl hgB u _).trans x5
      refine region_picks 12 17 _ _ D3.rd.rd (by kernel_rfl) (by kernel_rfl) (by decide) (by decide) rfl rfl rfl (by kernel_rfl) ?_
      refine pc_quiet 12 rfl (by omega) ?_
      simp only [List.take_succ_cons, List.take_zero]
      repeat (go_big_quiet_step (fail))
      refine wpQuiet_nil ?_
      simp only [List.drop_succ_cons, List.drop_zero]
      refine pc_pick (by omega) rfl 9 (fun W' => by go_simp) ?_
      generalize pickV R (p') 9 = m
      simp only [Act.put, List.setIfInBounds_toArray, List.set_cons_succ, List.set_cons_zero]
      refine pc_quiet 1 rfl (by omega) ?_
      simp only [List.take_succ_cons, List.take_zero]
      repeat (go_big_quiet_step (fail))
      refine wpQuiet_nil ?_
      simp only [List.drop_succ_cons, List.drop_zero]
      refine pc_pure (f := 40) (args := #[.int .i64 (wrap64 (wrap64 (t.by_ + d) + m)), .int .i64 10000]) (.int .i64 (mnB (wrap64 (wrap64 (t.by_ + d) + m)) 10000)) rfl (by decide) (fun W' => by go_simp) (fun W' => min_any _ _ W') ?_
      generalize mnB (wrap64 (wrap64 (t.by_ + d) + m)) 10000 = y
      simp only [Act.put, List.setIfInBounds_toArray, List.set_cons_succ, List.set_cons_zero]
      refine pc_quiet 2 rfl (by omega) ?_
      simp only [List.take_succ_cons, List.take_zero]
      repeat (go_big_quiet_step (fail))
      refine wpQuiet_nil ?_
      refine wpMoves_nil ?_
      intro w6 g4 s4 r4
      have DM := D3.more r4 g4
      clear q0 qn y5 x5 e0 e1 e2 e3 e4 ef D3 r4 g4 s4 hgl hgB
      refine any_end1 (N := 17) _ rfl (by kernel_rfl) (by kernel_rfl) rfl rfl ?_
      obtain ⟨u0, hc⟩ := some_get (DM.own.cellAt (i * 7 + 5) (by omega)) DM.own.1 (by omega)
      have hf := DM.own.frozenAt
      obtain ⟨l3, hl3, D5⟩ := DM.putI HT.out (j := 5) (by decide) y
      have HL3 : Hid (l3.length = l2.length) := hl3
      clear DM hl3
      unfold Oper.wp
      go_simp
      clear hc hf HT
      generalize w6.setCell ⟨g, i * 7 + 5, none⟩ (.int .i64 y) = w7 at *
      have HIL : Hid (i ≤ 41) := by show _ ≤ _; omega
      clear hlt hil
      go_wp2
      go_roundw
      case rel => exact ⟨i + 1, p' + 1, l3, by simp, by have := HL3.out; omega, by have := HIL.out; omega, by omega, D5⟩
      case measure => simp [intOf]; omega
    · go_wp2_with fail
      refine (min_any (wrap64 (fr + d)) 10000 _).mono ?_
      rintro e w4 ⟨rfl, rfl⟩
      generalize mnB (wrap64 (fr + d)) 10000 = y
      have D3 := D1.setX 3 (.int .i64 y) (q' := q) (s' := s) (fr' := y) (b' := b) (v' := .slice (some ⟨g, 0, none⟩) l.length gc) rfl D1.own (fun k e => (D1.gX k e).1)
      go_wp2
      clear e0 e1 e2 e3 e4 ef D1
      generalize w4.setCell ⟨X, 3, none⟩ (.int .i64 y) = w5 at *
      obtain ⟨⟨e0, e1, e2, e3, e4⟩, ef⟩ := D3.pa.cells
      have qn := ClsR.any w5 B
      have q0 : ∀ u : ClsR w5 B, u.it.cell? ⟨X, 4, none⟩ = some (.int .i64 b) := fun u => (ClsR.cell D3.pa.lt hXB u 4).trans e4
      refine region_picks 5 9 _ _ D3.rd.rd (by kernel_rfl) (by kernel_rfl) (by decide) (by decide) rfl rfl rfl (by kernel_rfl) ?_
      refine pc_quiet 5 rfl (by omega) ?_
      simp only [List.take_succ_cons, List.take_zero]
      repeat (go_big_quiet_step (fail))
      refine wpQuiet_nil ?_
      simp only [List.drop_succ_cons, List.drop_zero]
      refine pc_pick (by omega) rfl 20 (fun W' => by go_simp) ?_
      generalize pickV R (p') 20 = m
      simp only [Act.put, List.setIfInBounds_toArray, List.set_cons_succ, List.set_cons_zero]
      refine pc_quiet 1 rfl (by omega) ?_
      simp only [List.take_succ_cons, List.take_zero]
      repeat (go_big_quiet_step (fail))
      refine wpQuiet_nil ?_
      simp only [List.drop_succ_cons, List.drop_zero]
      refine pc_pure (f := 40) (args := #[.int .i64 (wrap64 (wrap64 (b + d) + m)), .int .i64 10000]) (.int .i64 (mnB (wrap64 (wrap64 (b + d) + m)) 10000)) rfl (by decide) (fun W' => by go_simp) (fun W' => min_any _ _ W') ?_
      generalize mnB (wrap64 (wrap64 (b + d) + m)) 10000 = z
      simp only [Act.put, List.setIfInBounds_toArray, List.set_cons_succ, List.set_cons_zero]
      refine pc_quiet 1 rfl (by omega) ?_
      simp only [List.take_succ_cons, List.take_zero]
      repeat (go_big_quiet_step (fail))
      refine wpQuiet_nil ?_
      refine wpMoves_nil ?_
      intro w6 g4 s4 r4
      have DM := D3.more r4 g4
      clear q0 qn e0 e1 e2 e3 e4 ef D3 r4 g4 s4
      refine any_end1 (N := 9) _ rfl (by kernel_rfl) (by kernel_rfl) rfl rfl ?_
      have D5 := DM.setX 4 (.int .i64 z) (q' := q) (s' := s) (fr' := y) (b' := z) (v' := .slice (some ⟨g, 0, none⟩) l.length gc) rfl DM.own (fun k e => (DM.gX k e).1)
      obtain ⟨⟨e0, e1, e2, e3, e4⟩, ef⟩ := DM.pa.cells
      unfold Oper.wp
      go_simp
      clear e0 e1 e2 e3 e4 ef DM
      generalize w6.setCell ⟨X, 4, none⟩ (.int .i64 z) = w7 at *
      obtain ⟨⟨e0, e1, e2, e3, e4⟩, ef⟩ := D5.pa.cells
      obtain ⟨⟨f0, f1, f2, f3, f4⟩, ff⟩ := D5.res.cells
      go_wp2
      refine bodyPost_ret (v := .agg #[.int .i64 q, .int .i64 s, .slice (some ⟨g, 0, none⟩) l.length gc, .int .i64 y, .int .i64 z]) (by simp [results, Tryz.results76, go_sem, f0, f1, f2, f3, f4]) rfl ?_
      exact D5.postO (by omega) (by omega)
end Go.Proofs.YtijcdikekgmfoaaGreatDoor

namespace Go.Proofs.YtijcdikekgmfoaaGreatDoor
open Go.RowKit

theorem owns_cut {w : World} {base g gc : Nat} {l : List Stp} (h : w.ownsRow base 44 7 (.slice (some ⟨g, 0, none⟩) l.length gc) l.length (stepCells l)) {k : Nat} (hk : k ≤ l.length) :
    w.ownsRow base 44 7 (.slice (some ⟨g, 0, none⟩) (l.take k).length gc) (l.take k).length (stepCells (l.take k)) := by
  have hlen : (l.take k).length = k := by simp; omega
  rw [hlen]
  refine ⟨by rw [stepCells_length, hlen], ?_⟩
  rcases h.2 with ⟨h0, _⟩ | ⟨g', cap', cur, h1, h2, h3, h4, h5, h6, h7⟩
  · cases h0
  · cases h1
    refine Or.inr ⟨g, gc, cur, rfl, h2, h3, by omega, h5, h6, ?_⟩
    have e : cur.toList.take (k * 7) = (cur.toList.take (l.length * 7)).take (k * 7) := by rw [List.take_take, Nat.min_eq_left (by omega)]
    rw [e, h7]
    conv => lhs; rw [← List.take_append_drop k l]
    rw [stepCells_app]
    rw [List.take_append_of_le_length (by rw [stepCells_length, hlen]; exact Nat.le_refl _)]
    exact List.take_of_length_le (by rw [stepCells_length, hlen]; exact Nat.le_refl _)

set_option maxRecDepth 20000 in
set_option maxHeartbeats 4000000 in
theorem other_2 (B : Nat) (R : Rdr) (p : Nat) (q s fr b : Int) (a : Option Addr) (b0 o cap : Nat) (l : List Stp) (w : World) (h : RdAt w B R p) (hp : p ≤ 999900000) (hl0 : 1 ≤ l.length) (hl : l.length ≤ 41) (hs : StepsAt w a b0 o l) (hbB : l ≠ [] → b0 ≠ B) (hm : pickV R (p + 1) 4 = 2) :
    Calls Tryz.prog 76 #[.pointer (some ⟨B, 0, none⟩), .agg #[.int .i64 q, .int .i64 s, .slice a l.length cap, .int .i64 fr, .int .i64 b]] w (OtherPost w B R p) := by
  have HM : Hid (pickV R (p + 1) 4 = 2) := hm
  clear hm
  have hB := lt_of_block h.blk
  have R0 := ((RdW.refl h).alloc (.cells #[.int .i64 q, .int .i64 s, .slice a l.length cap, .int .i64 fr, .int .i64 b] 27)).alloc (.cells #[.int .i64 0, .int .i64 0, .slice none 0 0, .int .i64 0, .int .i64 0] 27)
  have P0 := PathAt.new (w.alloc (.cells #[.int .i64 q, .int .i64 s, .slice a l.length cap, .int .i64 fr, .int .i64 b] 27)) 0 0 0 0 (.slice none 0 0)
  rw [World.size_alloc] at P0
  have Q0 := (PathAt.new w q s fr b (.slice a l.length cap)).keep ((Below.refl _ _).alloc (Nat.le_refl _) (.cells #[.int .i64 0, .int .i64 0, .slice none 0 0, .int .i64 0, .int .i64 0] 27)) (by simp)
  have b3 : ((l.length : Int) == 0) = false := beq_eq_false_iff_ne.2 (by omega)
  go_enter Tryz.func76, Tryz.ntmps76
  go_wp2_with fail
  refine (pick_any B R p (l.length : Int) _ R0.rd (by omega)).mono ?_
  rintro e w1 ⟨rfl, r1, g1, s1⟩
  have R1 := R0.more r1 g1
  have P1 := P0.grown g1 (by simp; omega)
  have Q1 := Q0.grown g1 (by simp; omega)
  have hs1 := ((hs.alloc (.cells #[.int .i64 q, .int .i64 s, .slice a l.length cap, .int .i64 fr, .int .i64 b] 27)).alloc (.cells #[.int .i64 0, .int .i64 0, .slice none 0 0, .int .i64 0, .int .i64 0] 27)).grown g1 (fun hn e => hbB hn (by cases e; rfl))
  obtain ⟨kn, hkn⟩ : ∃ kn : Nat, pickV R p (l.length : Int) = (kn : Int) := Int.eq_ofNat_of_zero_le (pickV_range h.rng (by omega) (by omega)).1
  have hk := (pickV_range (n := (l.length : Int)) h.rng (show p ≤ 1000000000 by omega) (by omega)).2
  rw [hkn] at hk ⊢
  have hz1 : w1.heap.size = w.heap.size + 1 + 1 := by rw [s1]; simp
  have Hz1 : Hid (w1.heap.size = w.heap.size + 1 + 1) := hz1
  clear hkn r1 g1 s1 R0 P0 Q0 hz1
  have k0 : (0 : Int) ≤ (kn : Int) := by omega
  have hkl : kn < l.length := by omega
  obtain ⟨⟨e0, e1, e2, e3, e4⟩, ef⟩ := Q1.cells
  go_wp2_with fail
  refine (copyS_any q s fr b a b0 o cap l _ hl0 (by omega) hs1).mono ?_
  rintro e w2 ⟨g, gc, rfl, ho2, hb2⟩
  have R2 := R1.below hb2
  have P2 := P1.keep hb2 P1.lt
  have ho2' : w2.ownsRow (w.heap.size + 1 + 1) 44 7 (.slice (some ⟨g, 0, none⟩) l.length gc) l.length (stepCells l) := by rw [← Hz1.out]; exact ho2
  have D1 : SpD w (w2.alloc (.cells #[.int .i64 q, .int .i64 s, (.slice (some ⟨g, 0, none⟩) l.length gc), .int .i64 fr, .int .i64 b] 27)) B R (p + 1) (w.heap.size + 1) w2.heap.size q s fr b (.slice (some ⟨g, 0, none⟩) l.length gc) l :=
    ⟨R2.alloc _, by omega, P2.lt, P2.keep ((Below.refl _ _).alloc (Nat.le_refl _) _) P2.lt, PathAt.new w2 q s fr b _, owns_below ho2' ((Below.refl _ _).alloc (Nat.le_refl _) _)⟩
  clear R1 P1 R2 P2 ho2 ho2' hb2 Q1 e0 e1 e2 e3 e4 ef hs1 Hz1
  go_wp2_with fail
  refine (pick_any B R (p + 1) 4 _ D1.rd.rd (by omega)).mono ?_
  rintro e w3 ⟨rfl, r3, g3, s3⟩
  have D2 := D1.more r3 g3
  clear D1 r3 g3 s3
  generalize w2.heap.size = X at *
  have hZX : w.heap.size + 1 ≠ X := by have := D2.lt; omega
  rw [HM.out]
  clear HM
  obtain ⟨⟨e0, e1, e2, e3, e4⟩, ef⟩ := D2.pa.cells
  have hcap : l.length ≤ gc ∧ gc ≤ maxLen := by
    rcases D2.own.2 with ⟨h0, _⟩ | ⟨g', cap', cur, h1, h2, h3, h4, h5, h6, h7⟩
    · cases h0
    · cases h1; exact ⟨h4, h5⟩
  have kc : (kn : Int) + 1 ≤ (gc : Int) := by omega
  have kw : wrap64 ((kn : Int) + 1) = (kn : Int) + 1 := by unfold wrap64; omega
  have kz : (0 : Int) ≤ (kn : Int) + 1 := by omega
  have ho := owns_cut D2.own (k := kn + 1) (by omega)
  have hlen : (l.take (kn + 1)).length = kn + 1 := by simp; omega
  have HLn : Hid ((l.take (kn + 1)).length = kn + 1) := hlen
  have D5 := D2.setX 2 (.slice (some ⟨g, 0, none⟩) (l.take (kn + 1)).length gc) (q' := q) (s' := s) (fr' := fr) (b' := b) (v' := .slice (some ⟨g, 0, none⟩) (l.take (kn + 1)).length gc) rfl ho (fun k e => (D2.gX k e).1)
  rw [hlen] at D5
  have HD5 : Hid (SpD w (w3.setCell ⟨X, 2, none⟩ (.slice (some ⟨g, 0, none⟩) (kn + 1) gc)) B R (p + 1 + 1) (w.heap.size + 1) X q s fr b (.slice (some ⟨g, 0, none⟩) (kn + 1) gc) (l.take (kn + 1))) := D5
  clear D5 ho hlen D2
  go_wp2_with fail
  refine (pick_any B R (p + 1 + 1) 5 _ HD5.out.rd.rd (by omega)).mono ?_
  rintro e w4 ⟨rfl, r4, g4, s4⟩
  have D3 : SpD w w4 B R (p + 1 + 1 + 1) (w.heap.size + 1) X q s fr b (.slice (some ⟨g, 0, none⟩) (l.take (kn + 1)).length gc) (l.take (kn + 1)) := by rw [HLn.out]; exact HD5.out.more r4 g4
  obtain ⟨z0, z1⟩ := pickV_range (n := 5) h.rng (show p + 1 + 1 ≤ 1000000000 by omega) (by omega)
  obtain ⟨n0, hn0⟩ : ∃ n0 : Nat, pickV R (p + 1 + 1) 5 = (n0 : Int) := Int.eq_ofNat_of_zero_le z0
  rw [hn0] at z1 ⊢
  have hlk : (l.take (kn + 1)).length ≤ 41 ∧ 1 ≤ (l.take (kn + 1)).length := by have := HLn.out; omega
  clear z0 hn0 HD5 r4 g4 s4 e0 e1 e2 e3 e4 ef HLn kc kw kz hcap
  generalize l.take (kn + 1) = l1 at *
  clear hk hkl k0
  obtain ⟨i0, hinf, hz0, hz1, hz2⟩ := info_parts step_info
  go_wp2
  go_loopw [10] (fun s10 wr => ∃ (m g gc p' : Nat) (l' : List Stp), s10 = .int .i64 (m : Int) ∧ m ≤ 4 ∧ 1 ≤ l'.length ∧ l'.length + m ≤ 45 ∧ p' + 50 * m ≤ p + 300 ∧ SpD w wr B R p' (w.heap.size + 1) X q s fr b (.slice (some ⟨g, 0, none⟩) l'.length gc) l') (fun s10 _ => (intOf s10).toNat)
  case atStart => exact ⟨n0, g, gc, p + 1 + 1 + 1, l1, rfl, by omega, hlk.2, by omega, by omega, D3⟩
  case round =>
    obtain ⟨m, g, gc, p', l, hu, hm4, hl1, hl45, hp', D1⟩ := hrel
    subst hu
    clear D3 hlk
    obtain ⟨⟨e0, e1, e2, e3, e4⟩, ef⟩ := D1.pa.cells
    obtain ⟨hXB, hZB, hBZ⟩ := D1.xB
    by_cases hm0 : 0 < (m : Int)
    · have hgX := D1.gX g rfl
      have hgl : g < wr.heap.size := owns_lt D1.own g rfl
      obtain ⟨n, hn⟩ : ∃ n, l.length = n + 1 := ⟨l.length - 1, by omega⟩
      obtain ⟨tl, htl⟩ : ∃ tl, l[n]? = some tl := ⟨_, List.getElem?_eq_getElem (by omega)⟩
      have x0 := (D1.own.cellAt (n * 7 + 0) (by omega)).trans (stepCells_at l n tl 0 htl (by decide))
      have x1 := (D1.own.cellAt (n * 7 + 1) (by omega)).trans (stepCells_at l n tl 1 htl (by decide))
      have x2 := (D1.own.cellAt (n * 7 + 2) (by omega)).trans (stepCells_at l n tl 2 htl (by decide))
      have x3 := (D1.own.cellAt (n * 7 + 3) (by omega)).trans (stepCells_at l n tl 3 htl (by decide))
      have x4 := (D1.own.cellAt (n * 7 + 4) (by omega)).trans (stepCells_at l n tl 4 htl (by decide))
      have x5 := (D1.own.cellAt (n * 7 + 5) (by omega)).trans (stepCells_at l n tl 5 htl (by decide))
      have x6 := (D1.own.cellAt (n * 7 + 6) (by omega)).trans (stepCells_at l n tl 6 htl (by decide))
      rw [Nat.add_zero] at x0
      have HN : Hid (l.length = n + 1) := hn
      have m0 : (0 : Int) ≤ (n : Int) := by omega
      have m1 : (n : Int) < (n : Int) + 1 := by omega
      have m2 : (n : Int) ≤ 44 := by omega
      clear htl
      rw [hn] at e2
      have hZs := D1.res.lt
      have hXs := D1.pa.lt
      have D2 := D1.alloc (.cells #[.int .i64 tl.x, .int .i64 tl.y, .int .i64 tl.lo, .int .i64 tl.hi, .int .i64 tl.fr, .int .i64 tl.by_, .bool tl.ho] 44)
      have bS2 := heap_alloc_new wr (.cells #[.int .i64 tl.x, .int .i64 tl.y, .int .i64 tl.lo, .int .i64 tl.hi, .int .i64 tl.fr, .int .i64 tl.by_, .bool tl.ho] 44)
      have HNl : Hid (l.length ≤ 44) := by show _ ≤ _; omega
      clear hn
      go_wp2_with fail
      clear x0 x1 x2 x3 x4 x5 x6 e0 e1 e2 e3 e4 ef D1
      generalize (wr.alloc (.cells #[.int .i64 tl.x, .int .i64 tl.y, .int .i64 tl.lo, .int .i64 tl.hi, .int .i64 tl.fr, .int .i64 tl.by_, .bool tl.ho] 44)) = w5 at *
      obtain ⟨S, hS⟩ : ∃ S, wr.heap.size = S := ⟨_, rfl⟩
      rw [hS] at bS2 hgl hXs hZs ⊢
      have hSB : S ≠ B := by omega
      have hSX : X ≠ S := by omega
      have hSZ : w.heap.size + 1 < S := by omega
      have hSg : ∀ k, (Value.slice (some ⟨g, 0, none⟩) l.length gc).ownBlock = some k → k ≠ S := fun k e => by
        have e' : g = k := by simpa [Value.ownBlock] using e
        omega
      clear hS
      refine (step_draw B R p' tl.x tl.y _ D2.rd.rd (by omega)).mono ?_
      rintro e w6 ⟨cx, cy, p6, rfl, hp6, R6⟩
      have D3 := D2.more R6.rd R6.gr
      have bS3 := D2.rd.keep bS2 hSB R6.gr
      clear R6 D2 bS2
      obtain ⟨⟨c0, c1, c2, c3, c4, c5, c6⟩, cf⟩ := blk7 bS3
      have D4 := ((D3.setO hSZ hSX hSg 0 (.int .i64 cx)).setO hSZ hSX hSg 1 (.int .i64 cy)).setO hSZ hSX hSg 4 (.int .i64 0)
      have bS4 := blk7_set bS3 0 (.int .i64 cx)
      simp only [List.setIfInBounds_toArray, List.set_cons_zero] at bS4
      have bS5 := blk7_set bS4 1 (.int .i64 cy)
      simp only [List.setIfInBounds_toArray, List.set_cons_succ, List.set_cons_zero] at bS5
      have bS6 := blk7_set bS5 4 (.int .i64 0)
      simp only [List.setIfInBounds_toArray, List.set_cons_succ, List.set_cons_zero] at bS6
      go_wp2
      clear c0 c1 c2 c3 c4 c5 c6 cf D3 bS3 bS4 bS5
      generalize (((w6.setCell ⟨S, 0, none⟩ (.int .i64 cx)).setCell ⟨S, 1, none⟩ (.int .i64 cy)).setCell ⟨S, 4, none⟩ (.int .i64 0)) = w7 at *
      obtain ⟨⟨c0, c1, c2, c3, c4, c5, c6⟩, cf⟩ := blk7 bS6
      have qn := ClsR.any w7 B
      have q0 : ∀ u : ClsR w7 B, u.it.cell? ⟨S, 5, none⟩ = some (.int .i64 tl.by_) := fun u => (ClsR.cell (lt_of_block bS6) hSB u 5).trans c5
      refine region_picks 4 8 _ _ D4.rd.rd (by kernel_rfl) (by kernel_rfl) (by decide) (by decide) rfl rfl rfl (by kernel_rfl) ?_
      refine pc_quiet 4 rfl (by omega) ?_
      simp only [List.take_succ_cons, List.take_zero]
      repeat (go_big_quiet_step (fail))
      refine wpQuiet_nil ?_
      simp only [List.drop_succ_cons, List.drop_zero]
      refine pc_pick (by omega) rfl 20 (fun W' => by go_simp) ?_
      generalize pickV R (p6) 20 = mp
      simp only [Act.put, List.setIfInBounds_toArray, List.set_cons_succ, List.set_cons_zero]
      refine pc_quiet 1 rfl (by omega) ?_
      simp only [List.take_succ_cons, List.take_zero]
      repeat (go_big_quiet_step (fail))
      refine wpQuiet_nil ?_
      simp only [List.drop_succ_cons, List.drop_zero]
      refine pc_pure (f := 40) (args := #[.int .i64 (wrap64 (wrap64 (tl.by_ + 10) + mp)), .int .i64 10000]) (.int .i64 (mnB (wrap64 (wrap64 (tl.by_ + 10) + mp)) 10000)) rfl (by decide) (fun W' => by go_simp) (fun W' => min_any _ _ W') ?_
      generalize mnB (wrap64 (wrap64 (tl.by_ + 10) + mp)) 10000 = z
      simp only [Act.put, List.setIfInBounds_toArray, List.set_cons_succ, List.set_cons_zero]
      refine pc_quiet 1 rfl (by omega) ?_
      simp only [List.take_succ_cons, List.take_zero]
      repeat (go_big_quiet_step (fail))
      refine wpQuiet_nil ?_
      refine wpMoves_nil ?_
      intro w8 g4 s4 r4
      have D5 := D4.more r4 g4
      have bS7 := D4.rd.keep bS6 hSB g4
      clear q0 qn c0 c1 c2 c3 c4 c5 c6 cf D4 bS6 r4 g4 s4
      refine any_end1 (N := 8) _ rfl (by kernel_rfl) (by kernel_rfl) rfl rfl ?_
      have D6 := D5.setO hSZ hSX hSg 5 (.int .i64 z)
      have bS8 := blk7_set bS7 5 (.int .i64 z)
      simp only [List.setIfInBounds_toArray, List.set_cons_succ, List.set_cons_zero] at bS8
      obtain ⟨⟨c0, c1, c2, c3, c4, c5, c6⟩, cf⟩ := blk7 bS7
      unfold Oper.wp
      go_simp
      clear c0 c1 c2 c3 c4 c5 c6 cf D5 bS7
      generalize w8.setCell ⟨S, 5, none⟩ (.int .i64 z) = w9 at *
      go_wp2_with fail
      refine (pick_any B R (p6 + 1) 3 _ D6.rd.rd (by omega)).mono ?_
      rintro e wA ⟨rfl, r4, g4, s4⟩
      have D7 := D6.more r4 g4
      have bS9 := D6.rd.keep bS8 hSB g4
      clear D6 bS8 r4 g4 s4
      generalize pickV R (p6 + 1) 3 = mq
      obtain ⟨ho, hho⟩ : ∃ ho, (mq == 0) = ho := ⟨_, rfl⟩
      have D8 := D7.setO hSZ hSX hSg 6 (.bool ho)
      have bSA := blk7_set bS9 6 (.bool ho)
      simp only [List.setIfInBounds_toArray, List.set_cons_succ, List.set_cons_zero] at bSA
      obtain ⟨⟨c0, c1, c2, c3, c4, c5, c6⟩, cf⟩ := blk7 bS9
      obtain ⟨⟨e0, e1, e2, e3, e4⟩, ef⟩ := D8.pa.cells
      obtain ⟨⟨d0, d1, d2, d3, d4, d5, d6⟩, df⟩ := blk7 bSA
      have D9 := D8.alloc (.cells #[.int .i64 cx, .int .i64 cy, .int .i64 tl.lo, .int .i64 tl.hi, .int .i64 0, .int .i64 z, .bool ho] 44)
      have hnew := seven_new (wA.setCell ⟨S, 6, none⟩ (.bool ho)) (⟨cx, cy, tl.lo, tl.hi, 0, z, ho⟩ : Stp) 44
      rw [show (wA.setCell ⟨S, 6, none⟩ (.bool ho)).heap.size = wA.heap.size by simp [World.setCell]] at hnew
      have hXs9 := D7.pa.lt
      have hZX9 := D7.lt
      have ho9 := D9.own
      have hvP := D9.gX
      rw [HN.out] at e2
      clear D7 bS9
      go_wp2_with (at_builtin; refine wpList_append_own _ rfl (.tmp 168) (.tmp 170) 25 rfl (w.heap.size + 1 + 1) 44 i0 (.agg #[.int .i64 0, .int .i64 0, .int .i64 0, .int .i64 0, .int .i64 0, .int .i64 0, .bool false]) 7 56 Tryz.underlying25 hinf hz0 hz1 hz2 rfl (by decide) (.slice (some ⟨g, 0, none⟩) (n + 1) gc) l.length (stepCells l) rfl (by rw [← HN.out]; exact ho9) ⟨wA.heap.size, 0, none⟩ 1 1 (Stp.cells (⟨cx, cy, tl.lo, tl.hi, 0, z, ho⟩ : Stp)) rfl rfl hnew (by simp [Value.oneCell']) (by have := HNl.out; unfold maxLen; omega) (by have := HNl.out; omega) (by have := HNl.out; simp; omega) ?_; intro v6 wB hown6 hgrow6 hnil6; obtain ⟨g6, gc6, rfl, _, _⟩ := owns_some hown6 (by omega); obtain ⟨hpa6, DA⟩ := D9.append (t := (⟨cx, cy, tl.lo, tl.hi, 0, z, ho⟩ : Stp)) hown6 (by rw [HN.out]; exact hgrow6); obtain ⟨⟨_, _, f2, _, _⟩, ff⟩ := hpa6.cells)
      have DB : SpD w (wB.setCell ⟨X, 2, none⟩ (.slice (some ⟨g6, 0, none⟩) (l.length + 1) gc6)) B R (p6 + 1 + 1) (w.heap.size + 1) X q s fr b (.slice (some ⟨g6, 0, none⟩) (l ++ [(⟨cx, cy, tl.lo, tl.hi, 0, z, ho⟩ : Stp)]).length gc6) (l ++ [(⟨cx, cy, tl.lo, tl.hi, 0, z, ho⟩ : Stp)]) := by
        rw [List.length_append]; exact DA
      go_roundw
      case rel => exact ⟨m - 1, g6, gc6, p6 + 1 + 1, _, by simp; omega, by omega, by simp, by have := HN.out; simp; omega, by omega, DB⟩
      case measure => simp [intOf]; omega
    · have hl46 : l.length ≤ 45 := by omega
      by_cases h40 : 40 < (l.length : Int)
      · have hcap : l.length ≤ gc ∧ gc ≤ maxLen := by
          rcases D1.own.2 with ⟨h0, _⟩ | ⟨g', cap', cur, h1, h2, h3, h4, h5, h6, h7⟩
          · cases h0
          · cases h1; exact ⟨h4, h5⟩
        have kc : (40 : Int) ≤ (gc : Int) := by omega
        have ho := owns_cut D1.own (k := 40) (by omega)
        have hlen : (l.take 40).length = 40 := by simp; omega
        have HLn : Hid ((l.take 40).length = 40) := hlen
        have D5 := D1.setX 2 (.slice (some ⟨g, 0, none⟩) (l.take 40).length gc) (q' := q) (s' := s) (fr' := fr) (b' := b) (v' := .slice (some ⟨g, 0, none⟩) (l.take 40).length gc) rfl ho (fun k e => (D1.gX k e).1)
        have D6 := D5.setX 3 (.int .i64 0) (q' := q) (s' := s) (fr' := 0) (b' := b) (v' := .slice (some ⟨g, 0, none⟩) (l.take 40).length gc) rfl D5.own (fun k e => (D5.gX k e).1)
        rw [hlen] at D6
        have HD6 : Hid (SpD w ((wr.setCell ⟨X, 2, none⟩ (.slice (some ⟨g, 0, none⟩) 40 gc)).setCell ⟨X, 3, none⟩ (.int .i64 0)) B R p' (w.heap.size + 1) X q s 0 b (.slice (some ⟨g, 0, none⟩) 40 gc) (l.take 40)) := D6
        clear D5 D6 ho hlen
        go_wp2
        clear e0 e1 e2 e3 e4 ef D1
        have D3 := HD6.out
        clear HD6
        generalize ((wr.setCell ⟨X, 2, none⟩ (.slice (some ⟨g, 0, none⟩) 40 gc)).setCell ⟨X, 3, none⟩ (.int .i64 0)) = w5 at *
        obtain ⟨l', hl'⟩ : ∃ l', l.take 40 = l' := ⟨_, rfl⟩
        rw [hl'] at D3 HLn
        clear hl'
        have HLn2 := HLn.out
        obtain ⟨⟨e0, e1, e2, e3, e4⟩, ef⟩ := D3.pa.cells
        have qn := ClsR.any w5 B
        have q0 : ∀ u : ClsR w5 B, u.it.cell? ⟨X, 4, none⟩ = some (.int .i64 b) := fun u => (ClsR.cell D3.pa.lt hXB u 4).trans e4
        refine region_picks 4 8 _ _ D3.rd.rd (by kernel_rfl) (by kernel_rfl) (by decide) (by decide) rfl rfl rfl (by kernel_rfl) ?_
        refine pc_quiet 4 rfl (by omega) ?_
        simp only [List.take_succ_cons, List.take_zero]
        repeat (go_big_quiet_step (fail))
        refine wpQuiet_nil ?_
        simp only [List.drop_succ_cons, List.drop_zero]
        refine pc_pick (by omega) rfl 40 (fun W' => by go_simp) ?_
        generalize pickV R (p') 40 = mp
        simp only [Act.put, List.setIfInBounds_toArray, List.set_cons_succ, List.set_cons_zero]
        refine pc_quiet 1 rfl (by omega) ?_
        simp only [List.take_succ_cons, List.take_zero]
        repeat (go_big_quiet_step (fail))
        refine wpQuiet_nil ?_
        simp only [List.drop_succ_cons, List.drop_zero]
        refine pc_pure (f := 40) (args := #[.int .i64 (wrap64 (wrap64 (b + 60) + mp)), .int .i64 10000]) (.int .i64 (mnB (wrap64 (wrap64 (b + 60) + mp)) 10000)) rfl (by decide) (fun W' => by go_simp) (fun W' => min_any _ _ W') ?_
        generalize mnB (wrap64 (wrap64 (b + 60) + mp)) 10000 = z
        simp only [Act.put, List.setIfInBounds_toArray, List.set_cons_succ, List.set_cons_zero]
        refine pc_quiet 1 rfl (by omega) ?_
        simp only [List.take_succ_cons, List.take_zero]
        repeat (go_big_quiet_step (fail))
        refine wpQuiet_nil ?_
        refine wpMoves_nil ?_
        intro w6 g4 s4 r4
        have DM := D3.more r4 g4
        clear q0 qn e0 e1 e2 e3 e4 ef D3 r4 g4 s4
        refine any_end1 (N := 8) _ rfl (by kernel_rfl) (by kernel_rfl) rfl rfl ?_
        have D5 := DM.setX 4 (.int .i64 z) (q' := q) (s' := s) (fr' := 0) (b' := z) (v' := .slice (some ⟨g, 0, none⟩) 40 gc) rfl DM.own (fun k e => (DM.gX k e).1)
        obtain ⟨⟨e0, e1, e2, e3, e4⟩, ef⟩ := DM.pa.cells
        unfold Oper.wp
        go_simp
        clear e0 e1 e2 e3 e4 ef DM
        generalize w6.setCell ⟨X, 4, none⟩ (.int .i64 z) = w7 at *
        obtain ⟨⟨e0, e1, e2, e3, e4⟩, ef⟩ := D5.pa.cells
        obtain ⟨⟨f0, f1, f2, f3, f4⟩, ff⟩ := D5.res.cells
        go_wp2
        refine bodyPost_ret (v := .agg #[.int .i64 q, .int .i64 s, .slice (some ⟨g, 0, none⟩) 40 gc, .int .i64 0, .int .i64 z]) (by simp [results, Tryz.results76, go_sem, f0, f1, f2, f3, f4]) rfl ?_
        exact D5.postO (by omega) (by omega)
      · have D3 := D1.setX 3 (.int .i64 0) (q' := q) (s' := s) (fr' := 0) (b' := b) (v' := .slice (some ⟨g, 0, none⟩) l.length gc) rfl D1.own (fun k e => (D1.gX k e).1)
        go_wp2
        clear e0 e1 e2 e3 e4 ef D1
        generalize wr.setCell ⟨X, 3, none⟩ (.int .i64 0) = w5 at *
        obtain ⟨⟨e0, e1, e2, e3, e4⟩, ef⟩ := D3.pa.cells
        have qn := ClsR.any w5 B
        have q0 : ∀ u : ClsR w5 B, u.it.cell? ⟨X, 4, none⟩ = some (.int .i64 b) := fun u => (ClsR.cell D3.pa.lt hXB u 4).trans e4
        refine region_picks 4 8 _ _ D3.rd.rd (by kernel_rfl) (by kernel_rfl) (by decide) (by decide) rfl rfl rfl (by kernel_rfl) ?_
        refine pc_quiet 4 rfl (by omega) ?_
        simp only [List.take_succ_cons, List.take_zero]
        repeat (go_big_quiet_step (fail))
        refine wpQuiet_nil ?_
        simp only [List.drop_succ_cons, List.drop_zero]
        refine pc_pick (by omega) rfl 40 (fun W' => by go_simp) ?_
        generalize pickV R (p') 40 = mp
        simp only [Act.put, List.setIfInBounds_toArray, List.set_cons_succ, List.set_cons_zero]
        refine pc_quiet 1 rfl (by omega) ?_
        simp only [List.take_succ_cons, List.take_zero]
        repeat (go_big_quiet_step (fail))
        refine wpQuiet_nil ?_
        simp only [List.drop_succ_cons, List.drop_zero]
        refine pc_pure (f := 40) (args := #[.int .i64 (wrap64 (wrap64 (b + 60) + mp)), .int .i64 10000]) (.int .i64 (mnB (wrap64 (wrap64 (b + 60) + mp)) 10000)) rfl (by decide) (fun W' => by go_simp) (fun W' => min_any _ _ W') ?_
        generalize mnB (wrap64 (wrap64 (b + 60) + mp)) 10000 = z
        simp only [Act.put, List.setIfInBounds_toArray, List.set_cons_succ, List.set_cons_zero]
        refine pc_quiet 1 rfl (by omega) ?_
        simp only [List.take_succ_cons, List.take_zero]
        repeat (go_big_quiet_step (fail))
        refine wpQuiet_nil ?_
        refine wpMoves_nil ?_
        intro w6 g4 s4 r4
        have DM := D3.more r4 g4
        clear q0 qn e0 e1 e2 e3 e4 ef D3 r4 g4 s4
        refine any_end1 (N := 8) _ rfl (by kernel_rfl) (by kernel_rfl) rfl rfl ?_
        have D5 := DM.setX 4 (.int .i64 z) (q' := q) (s' := s) (fr' := 0) (b' := z) (v' := .slice (some ⟨g, 0, none⟩) l.length gc) rfl DM.own (fun k e => (DM.gX k e).1)
        obtain ⟨⟨e0, e1, e2, e3, e4⟩, ef⟩ := DM.pa.cells
        unfold Oper.wp
        go_simp
        clear e0 e1 e2 e3 e4 ef DM
        generalize w6.setCell ⟨X, 4, none⟩ (.int .i64 z) = w7 at *
        obtain ⟨⟨e0, e1, e2, e3, e4⟩, ef⟩ := D5.pa.cells
        obtain ⟨⟨f0, f1, f2, f3, f4⟩, ff⟩ := D5.res.cells
        go_wp2
        refine bodyPost_ret (v := .agg #[.int .i64 q, .int .i64 s, .slice (some ⟨g, 0, none⟩) l.length gc, .int .i64 0, .int .i64 z]) (by simp [results, Tryz.results76, go_sem, f0, f1, f2, f3, f4]) rfl ?_
        exact D5.postO (by omega) (by omega)
end Go.Proofs.YtijcdikekgmfoaaGreatDoor
