/- Joined texts: Data, OwnMore, GrownMore, StepInfo, Copy, Copy2, SpanMark2, Data2, LawData, SpanData, SpanMath, SpanBack, BoxP, PathKit, PathMark, PathAns, Eq. -/
import Derived.WalkKit
import Derived.Deep.MidRow
import Derived.Maps.AppendAt
import Derived.WalkSpells
import Derived.Deep.RegionHeld3
import Derived.Test.YtedmnlognekdkaaRows
namespace Go.Proofs.Ytedmnlognekdkaa
open Go.RowKit

/-- A step, as numbers. -/
structure Stp where
  x : Int
  y : Int
  lo : Int
  hi : Int
  fr : Int
  by_ : Int
  ho : Bool

/-- Its cells. -/
abbrev Stp.cells (s : Stp) : List Value := [.int .i64 s.x, .int .i64 s.y, .int .i64 s.lo, .int .i64 s.hi, .int .i64 s.fr, .int .i64 s.by_, .bool s.ho]
/-- It as a value. -/
abbrev Stp.val (s : Stp) : Value := .agg #[.int .i64 s.x, .int .i64 s.y, .int .i64 s.lo, .int .i64 s.hi, .int .i64 s.fr, .int .i64 s.by_, .bool s.ho]
/-- The step of zeros. -/
def Stp.zero : Stp := ⟨0, 0, 0, 0, 0, 0, false⟩

/-- n is between a and b. -/
def inB (n a b : Int) : Bool := decide (a ≤ n) && decide (n ≤ b)
theorem inB_iff (n a b : Int) : inB n a b = true ↔ a ≤ n ∧ n ≤ b := by simp [inB]

/-- Ascending, from the least to the most. -/
def ordB (a b c d : Int) : Bool := decide (a ≤ b ∧ b ≤ c ∧ c ≤ d)
/-- A kind within its bounds. -/
def kindB (q s : Int) : Bool := decide (1 ≤ q ∧ q ≤ s ∧ s ≤ 50)
/-- A step within its bounds. -/
def stepB (x y lo hi fr by_ : Int) : Bool :=
  decide (0 ≤ x ∧ x ≤ 15 ∧ 0 ≤ y ∧ y ≤ 15 ∧ 0 ≤ lo ∧ lo ≤ hi ∧ hi ≤ 6 ∧ 0 ≤ fr ∧ fr ≤ by_ ∧ by_ ≤ 10000)
/-- Of two steps that are within their bounds: the second can stand behind the first. -/
def nextB (x y lo hi x' y' lo' hi' : Int) : Bool :=
  decide (-1 ≤ x - x' ∧ x - x' ≤ 1 ∧ -1 ≤ y - y' ∧ y - y' ≤ 1 ∧ (x ≠ x' ∨ y ≠ y') ∧ lo ≤ hi' ∧ lo' ≤ hi)

/-- A level in common. -/
def levB (lo hi lo' hi' : Int) : Bool := decide (lo ≤ hi') && decide (lo' ≤ hi)
/-- As the program asks it. -/
def folB (x y lo hi x' y' lo' hi' : Int) : Bool := !((x == x') && (y == y')) && inB (wrap64 (x - x')) (-1) 1 && inB (wrap64 (y - y')) (-1) 1 && levB lo hi lo' hi'

def Stp.okB (s : Stp) : Bool := stepB s.x s.y s.lo s.hi s.fr s.by_
def Stp.nextB (s t : Stp) : Bool := Go.Proofs.Ytedmnlognekdkaa.nextB s.x s.y s.lo s.hi t.x t.y t.lo t.hi

/-- The cells of a list of steps lie in block b from offset o on, seven each. -/
structure StepsAt (w : World) (a : Option Addr) (b o : Nat) (l : List Stp) : Prop where
  here : l ≠ [] → a = some ⟨b, o, none⟩
  lt : l ≠ [] → b < w.heap.size
  cell : ∀ (i : Nat) (s : Stp), l[i]? = some s → w.rangeAt b (o + i * 7) s.cells

theorem StepsAt.below {w w' : World} {a : Option Addr} {b o B : Nat} {l : List Stp} (h : StepsAt w a b o l) (hb : Below B w w') (hB : l ≠ [] → b < B) : StepsAt w' a b o l where
  here := h.here
  lt hl := Nat.lt_of_lt_of_le (h.lt hl) hb.size
  cell i s hi j v hv := by
    have hne : l ≠ [] := by intro e; subst e; simp at hi
    rw [hb.cell (p := ⟨b, o + i * 7 + j, none⟩) (hB hne)]
    exact h.cell i s hi j v hv

/-- The seven cells of the i-th step, as a walk asks for them. -/
theorem StepsAt.seven {w : World} {a : Option Addr} {b o : Nat} {l : List Stp} (h : StepsAt w a b o l) {i : Nat} {s : Stp} (hi : l[i]? = some s) :
    w.cell? ⟨b, o + i * 7, none⟩ = some (.int .i64 s.x) ∧ w.cell? ⟨b, o + i * 7 + 1, none⟩ = some (.int .i64 s.y) ∧ w.cell? ⟨b, o + i * 7 + 2, none⟩ = some (.int .i64 s.lo) ∧ w.cell? ⟨b, o + i * 7 + 3, none⟩ = some (.int .i64 s.hi) ∧
    w.cell? ⟨b, o + i * 7 + 4, none⟩ = some (.int .i64 s.fr) ∧ w.cell? ⟨b, o + i * 7 + 5, none⟩ = some (.int .i64 s.by_) ∧ w.cell? ⟨b, o + i * 7 + 6, none⟩ = some (.bool s.ho) := by
  have hr := h.cell i s hi
  exact ⟨hr 0 _ rfl, hr 1 _ rfl, hr 2 _ rfl, hr 3 _ rfl, hr 4 _ rfl, hr 5 _ rfl, hr 6 _ rfl⟩

theorem old_cells {W w1 : World} {B : Nat} (hb : Below B W w1) : (∀ b o, b < B → w1.cell? ⟨b, o, none⟩ = W.cell? ⟨b, o, none⟩) ∧ (∀ b o, b < B → w1.frozen? ⟨b, o, none⟩ = W.frozen? ⟨b, o, none⟩) :=
  ⟨fun b o h => hb.cell (p := ⟨b, o, none⟩) h, fun b o h => hb.frozen (p := ⟨b, o, none⟩) h⟩

theorem Stp.one (s : Stp) : (#[Value.int .i64 s.x, .int .i64 s.y, .int .i64 s.lo, .int .i64 s.hi, .int .i64 s.fr, .int .i64 s.by_, .bool s.ho].all (·.oneCell')) = true := by
  simp [Value.oneCell']

theorem there_of_block {w : World} {b : Nat} {C : Array Value} {t : TypeId} (hb : w.heap[b]? = some (.cells C t (0, 0))) (o n : Nat) (h : o + n ≤ C.size) : w.there b o n := fun j hj =>
  ⟨by rw [cell_of_row w b (o + j) C t _ hb]; simp; omega, frozen_of_row w b _ C t hb⟩

theorem there_below {w w' : World} {B b o n : Nat} (h : w.there b o n) (hb : Below B w w') (hB : b < B) : w'.there b o n := fun j hj =>
  ⟨by rw [hb.cell (p := ⟨b, o + j, none⟩) hB]; exact (h j hj).1, by rw [hb.frozen (p := ⟨b, o + j, none⟩) hB]; exact (h j hj).2⟩

theorem range_below {w w' : World} {B b o : Nat} {cs : List Value} (h : w.rangeAt b o cs) (hb : Below B w w') (hB : b < B) : w'.rangeAt b o cs := fun j v hv => by
  rw [hb.cell (p := ⟨b, o + j, none⟩) hB]; exact h j v hv

theorem below_setCells {B b : Nat} (hB : B ≤ b) : ∀ (vs : List Value) (o : Nat) (a w : World), Below B a w → Below B a (w.setCells b o vs)
  | [], _, _, _, h => h
  | v :: r, o, a, w, h => by
    rw [World.setCells]
    exact below_setCells hB r (o + 1) a _ (h.setCell (p := ⟨b, o, none⟩) hB v)

theorem size_setCells (b : Nat) : ∀ (vs : List Value) (o : Nat) (w : World), (w.setCells b o vs).heap.size = w.heap.size
  | [], _, _ => rfl
  | v :: r, o, w => by
    rw [World.setCells, size_setCells b r (o + 1)]
    simp [World.setCell]

theorem lt_of_there {w : World} {b o n : Nat} (h : w.there b o n) (hn : 0 < n) : b < w.heap.size := by
  obtain ⟨u, hu⟩ := Option.isSome_iff_exists.1 (h 0 hn).1
  exact World.block_lt_of_cell? w _ hu

theorem StepsAt.set {w : World} {a : Option Addr} {b o : Nat} {l : List Stp} (h : StepsAt w a b o l) {p : Addr} (hp : p.block ≠ b) (v : Value) : StepsAt (w.setCell p v) a b o l where
  here := h.here
  lt hl := by have := h.lt hl; simpa [World.setCell] using this
  cell i s hi j u hu := by
    rw [World.cell?_setCell_other _ _ _ _ (by intro e; exact hp (by rw [e]))]
    exact h.cell i s hi j u hu

theorem StepsAt.alloc {w : World} {a : Option Addr} {b o : Nat} {l : List Stp} (h : StepsAt w a b o l) (ob : Obj) : StepsAt (w.alloc ob) a b o l where
  here := h.here
  lt hl := by have := h.lt hl; simp; omega
  cell i s hi := World.rangeAt_alloc (h.cell i s hi) ob

/-- The i-th step is within its bounds, and can stand behind the one ahead of it. -/
def goodS (l : List Stp) (i : Nat) : Bool :=
  stepB (l.getD i .zero).x (l.getD i .zero).y (l.getD i .zero).lo (l.getD i .zero).hi (l.getD i .zero).fr (l.getD i .zero).by_ &&
    (decide (i = 0) || folB (l.getD (i - 1) .zero).x (l.getD (i - 1) .zero).y (l.getD (i - 1) .zero).lo (l.getD (i - 1) .zero).hi (l.getD i .zero).x (l.getD i .zero).y (l.getD i .zero).lo (l.getD i .zero).hi)
/-- So are the first k. -/
def goodTo (l : List Stp) (k : Nat) : Bool := (List.range k).all (goodS l)
theorem goodTo_zero (l : List Stp) : goodTo l 0 = true := rfl
theorem goodTo_succ (l : List Stp) (k : Nat) : goodTo l (k + 1) = (goodTo l k && goodS l k) := by
  simp [goodTo, List.range_succ, List.all_append]
theorem goodTo_le {l : List Stp} {k n : Nat} (h : goodTo l n = true) (hk : k ≤ n) : goodTo l k = true := by
  simp [goodTo] at *; intro i hi; exact h i (by omega)
theorem goodTo_not {l : List Stp} {k n : Nat} (hk : k < n) (h : goodS l k = false) : goodTo l n = false := by
  cases e : goodTo l n with
  | false => rfl
  | true =>
    have := goodTo_le e (show k + 1 ≤ n by omega)
    rw [goodTo_succ, h] at this
    simp at this
/-- A path is ok. -/
def pathB (q s fr b : Int) (l : List Stp) : Bool := kindB q s && inB l.length 1 40 && inB fr 0 b && decide (b ≤ 10000) && goodTo l l.length

theorem goodS_bad {l : List Stp} {k : Nat} {t : Stp} (ht : l.getD k .zero = t) (h : stepB t.x t.y t.lo t.hi t.fr t.by_ = false) : goodS l k = false := by
  unfold goodS; rw [ht, h]; rfl
theorem goodS_first {l : List Stp} {t : Stp} (ht : l.getD 0 .zero = t) (h : stepB t.x t.y t.lo t.hi t.fr t.by_ = true) : goodS l 0 = true := by
  unfold goodS; rw [ht, h]; rfl
theorem goodS_next {l : List Stp} {m : Nat} {p t : Stp} {v : Bool} (ht : l.getD (m + 1) .zero = t) (hp : l.getD m .zero = p) (h : stepB t.x t.y t.lo t.hi t.fr t.by_ = true)
    (hf : folB p.x p.y p.lo p.hi t.x t.y t.lo t.hi = v) : goodS l (m + 1) = v := by
  unfold goodS; rw [Nat.add_sub_cancel, ht, hp, h, hf]; simp
/-- What is left of a measure behind n more. -/
def leftB (left : Int) (n : Nat) : Int := if left - n < 0 then -1 else left - n
theorem leftB_left (left : Int) (n : Nat) (h0 : -1 ≤ left) (h1 : left ≤ 1048576) : -1 ≤ leftB left n ∧ leftB left n ≤ 1048576 := by
  unfold leftB; split <;> omega
end Go.Proofs.Ytedmnlognekdkaa

namespace Go.Proofs.Ytedmnlognekdkaa
open Go.RowKit

theorem blk2 {w : World} {B : Nat} {x y : Value} {t : TypeId} (h : w.heap[B]? = some (.cells #[x, y] t (0, 0))) : w.cell? ⟨B, 0, none⟩ = some x ∧ w.cell? ⟨B, 1, none⟩ = some y ∧ ∀ j, w.frozen? ⟨B, j, none⟩ = false :=
  ⟨by rw [cell_of_row w B 0 _ _ _ h]; rfl, by rw [cell_of_row w B 1 _ _ _ h]; rfl, fun j => frozen_of_row w B j _ _ h⟩
theorem blk2_after {W w' : World} {x y : Value} {t : TypeId} (hb : Below (W.alloc (.cells #[x, y] t)).heap.size (W.alloc (.cells #[x, y] t)) w') : w'.heap[W.heap.size]? = some (.cells #[x, y] t (0, 0)) :=
  (hb.block W.heap.size (by simp)).trans (heap_alloc_new W _)
theorem blk2_after_drew {W w' : World} {x y : Value} {t : TypeId} (hb : Below (W.alloc (.cells #[x, y] t)).drew.heap.size (W.alloc (.cells #[x, y] t)).drew w') : w'.heap[W.heap.size]? = some (.cells #[x, y] t (0, 0)) :=
  blk2_after ⟨hb.os, hb.tape, hb.output, hb.size, hb.block⟩
theorem blk2_after2 {W w' : World} {x y : Value} {t : TypeId} (hb : Below ((W.alloc (.cells #[x, y] t)).alloc (.cells #[x, y] t)).heap.size ((W.alloc (.cells #[x, y] t)).alloc (.cells #[x, y] t)) w') :
    w'.heap[W.heap.size]? = some (.cells #[x, y] t (0, 0)) ∧ w'.heap[W.heap.size + 1]? = some (.cells #[x, y] t (0, 0)) := by
  refine ⟨(hb.block W.heap.size (by simp; omega)).trans ((Below.heap_alloc _ _ _ (by simp)).trans (heap_alloc_new W _)), ?_⟩
  have h := blk2_after hb
  rwa [World.size_alloc] at h
theorem blk2_kept {W w' : World} {B : Nat} {x y : Value} {t : TypeId} (h : W.heap[B]? = some (.cells #[x, y] t (0, 0))) (hb : Below W.heap.size W w') : w'.heap[B]? = some (.cells #[x, y] t (0, 0)) :=
  (hb.block B (lt_of_block h)).trans h
theorem blk2_set0 {w : World} {B : Nat} {x y : Value} {t : TypeId} (h : w.heap[B]? = some (.cells #[x, y] t (0, 0))) (u : Value) : (w.setCell ⟨B, 0, none⟩ u).heap[B]? = some (.cells #[u, y] t (0, 0)) := by
  rw [heap_setCell_same w B 0 _ _ _ h]; rfl
theorem blk2_set1 {w : World} {B : Nat} {x y : Value} {t : TypeId} (h : w.heap[B]? = some (.cells #[x, y] t (0, 0))) (u : Value) : (w.setCell ⟨B, 1, none⟩ u).heap[B]? = some (.cells #[x, u] t (0, 0)) := by
  rw [heap_setCell_same w B 1 _ _ _ h]; rfl

theorem owns_base {w : World} {base e size n : Nat} {v : Value} {xs : List Value} (h : w.ownsRow base e size v n xs) : ∀ k, v.ownBlock = some k → base ≤ k := by
  intro k hk
  rcases h.2 with ⟨rfl, _⟩ | ⟨g, cap, cur, rfl, hg, _⟩
  · simp [Value.ownBlock] at hk
  · simp [Value.ownBlock] at hk; omega
theorem owns_empty {w : World} {base e size : Nat} (hb : base ≤ w.heap.size) : (w.alloc (.cells #[] e)).ownsRow base e size (.slice (some ⟨w.heap.size, 0, none⟩) 0 0) 0 [] := by
  have h := World.ownsRow_lit (base := base) (e := e) (size := size) w #[] 0 hb (by unfold maxLen; omega) (by simp)
  exact h
theorem two_new (w : World) (x y : Value) (t : TypeId) : ∀ (j : Nat) (u : Value), [x, y][j]? = some u → (w.alloc (.cells #[x, y] t)).cell? ((⟨w.heap.size, 0, none⟩ : Addr).add j) = some u := by
  intro j u hj
  match j, hj with
  | 0, hj => simp at hj; subst hj; simp [Addr.add, go_sem]
  | 1, hj => simp at hj; subst hj; simp [Addr.add, go_sem]
theorem owns_below {w w' : World} {base e size n : Nat} {v : Value} {xs : List Value} (h : w.ownsRow base e size v n xs) (hb : Below w.heap.size w w') : w'.ownsRow base e size v n xs :=
  ⟨h.1, h.2.imp id fun ⟨g, cap, cur, h1, h2, h3, h4⟩ => ⟨g, cap, cur, h1, h2, (hb.block g (lt_of_block h3)).trans h3, h4⟩⟩
theorem owns_set {w : World} {base e size n : Nat} {v : Value} {xs : List Value} (h : w.ownsRow base e size v n xs) {B : Nat} (hB : ∀ k, v.ownBlock = some k → k ≠ B) (j : Nat) (u : Value) : (w.setCell ⟨B, j, none⟩ u).ownsRow base e size v n xs :=
  ⟨h.1, h.2.imp id fun ⟨g, cap, cur, h1, h2, h3, h4⟩ => ⟨g, cap, cur, h1, h2, by rw [heap_setCell_other w ⟨B, j, none⟩ g u (hB g (by rw [h1]; rfl))]; exact h3, h4⟩⟩
theorem owns_lt {w : World} {base e size n : Nat} {v : Value} {xs : List Value} (h : w.ownsRow base e size v n xs) : ∀ k, v.ownBlock = some k → k < w.heap.size := by
  intro k hk
  rcases h.2 with ⟨rfl, _⟩ | ⟨g, cap, cur, rfl, _, h3, _⟩
  · simp [Value.ownBlock] at hk
  · simp [Value.ownBlock] at hk; subst hk; exact lt_of_block h3

/-- The slice of a row that is not empty. -/
theorem owns_some {w : World} {base e size n : Nat} {v : Value} {xs : List Value} (h : w.ownsRow base e size v n xs) (hn : 0 < n) : ∃ g cap, v = .slice (some ⟨g, 0, none⟩) n cap ∧ base ≤ g ∧ g < w.heap.size := by
  rcases h.2 with ⟨_, h0⟩ | ⟨g, cap, cur, rfl, hg, hh, _⟩
  · omega
  · exact ⟨g, cap, rfl, hg, lt_of_block hh⟩
end Go.Proofs.Ytedmnlognekdkaa

namespace Go.Proofs.Ytedmnlognekdkaa
open Go.RowKit

theorem grown_set (W : World) (p : Addr) (v : Value) : W.grownBy (W.setCell p v) (some p.block) :=
  ⟨rfl, rfl, rfl, by simp [World.setCell], fun k _ hk => heap_setCell_other W p k v (fun e => hk (by rw [e]))⟩

theorem grown_over2 {a b c : World} {row : Option Nat} (h : a.grownBy b row) (k : b.grownBy c row) : a.grownBy c row :=
  ⟨k.os.trans h.os, k.tape.trans h.tape, k.output.trans h.output, Nat.le_trans h.size k.size, fun i hi hne => (k.block i (Nat.lt_of_lt_of_le hi h.size) hne).trans (h.block i hi hne)⟩

/-- The marks: numbers one behind another. -/
def markV (k0 : Int) (n : Nat) : List Value := (List.range n).map fun (j : Nat) => .int .i64 (k0 + (j : Int))
theorem markV_length (k0 : Int) (n : Nat) : (markV k0 n).length = n := by simp [markV]
theorem markV_get (k0 : Int) {n i : Nat} (h : i < n) : (markV k0 n)[i]? = some (.int .i64 (k0 + (i : Int))) := by simp [markV, h]
end Go.Proofs.Ytedmnlognekdkaa

namespace Go.Proofs.Ytedmnlognekdkaa
open Go.RowKit

theorem step_info : (Try.prog.info? 43).map (fun i => (i.zero, i.size, i.bytes)) = some (some (.agg #[.int .i64 0, .int .i64 0, .int .i64 0, .int .i64 0, .int .i64 0, .int .i64 0, .bool false]), 7, 56) := by kernel_rfl

theorem step_size7 : (Try.prog.info? 43).map (·.size) = some 7 := by kernel_rfl
theorem step_size (s : Stp) : (Try.prog.info? 43).map (·.size) = some (Array.size #[Value.int .i64 s.x, .int .i64 s.y, .int .i64 s.lo, .int .i64 s.hi, .int .i64 s.fr, .int .i64 s.by_, .bool s.ho]) := step_size7
/-- A step stored whole. -/
theorem store_step {ops : Array Oper} {rest : List Oper} {op : Oper} {a : Act} {w : World} {Q : Exit → Act → World → Prop} (hgd : op.guard = none) (x y : Operand) (ho : op.op = .store 43 x y)
    (b o : Nat) (s : Stp) (hx : a.eval x = .pointer (some ⟨b, o, none⟩)) (hy : a.eval y = .agg #[.int .i64 s.x, .int .i64 s.y, .int .i64 s.lo, .int .i64 s.hi, .int .i64 s.fr, .int .i64 s.by_, .bool s.ho])
    (ht : w.there b o 7) (h : wpList Try.prog ops Q rest (a.put op.dst undef) (w.setCells b o s.cells)) : wpList Try.prog ops Q (op :: rest) a w :=
  wpList_store_mid hgd 43 x y ho b o _ hx hy ht (step_size s) s.one h
end Go.Proofs.Ytedmnlognekdkaa

namespace Go.Proofs.Ytedmnlognekdkaa
open Go.RowKit

theorem toStep_any (x y lo hi fr b : Int) (ho : Bool) (w : World) :
    Calls Try.prog 26 #[.agg #[.int .i64 x, .int .i64 y, .int .i64 lo, .int .i64 hi, .int .i64 fr, .int .i64 b, .bool ho]] w
      fun e w' => e = .returned (.agg #[.int .i64 x, .int .i64 y, .int .i64 lo, .int .i64 hi, .int .i64 fr, .int .i64 b, .bool ho]) ∧ Below w.heap.size w w' := by
  go_enter Try.func26, Try.ntmps26
  go_wp2
  refine bodyPost_ret (v := .agg #[.int .i64 x, .int .i64 y, .int .i64 lo, .int .i64 hi, .int .i64 fr, .int .i64 b, .bool ho]) (by simp [results, Try.results26, go_sem]) rfl ⟨rfl, ?_⟩
  exact (((Below.refl _ _).alloc (Nat.le_refl _) _).alloc (by simp) _).alloc (by simp; omega) _

theorem toKind_any (q s : Int) (w : World) :
    Calls Try.prog 15 #[.agg #[.int .i64 q, .int .i64 s]] w fun e w' => e = .returned (.agg #[.int .i64 q, .int .i64 s]) ∧ Below w.heap.size w w' := by
  go_enter Try.func15, Try.ntmps15
  go_wp2
  refine bodyPost_ret (v := .agg #[.int .i64 q, .int .i64 s]) (by simp [results, Try.results15, go_sem]) rfl ⟨rfl, ?_⟩
  exact (((Below.refl _ _).alloc (Nat.le_refl _) _).alloc (by simp) _).alloc (by simp; omega) _


set_option maxHeartbeats 1000000 in
theorem toSteps_more (a : Option Addr) (b o cap : Nat) (l : List Stp) (w : World) (hl : l.length ≤ 1048576) (hs : StepsAt w a b o l) :
    Calls Try.prog 16 #[.slice a l.length cap] w
      fun e w' => ∃ g, e = .returned (.slice (some ⟨g, 0, none⟩) l.length l.length) ∧ w.heap.size ≤ g ∧ g < w'.heap.size ∧ StepsAt w' (some ⟨g, 0, none⟩) g 0 l ∧ Below w.heap.size w w' ∧ ∀ i, i < l.length → w'.there g (i * 7) 7 := by
  obtain ⟨i0, hi, hz0, hz1, hz2⟩ := info_parts step_info
  go_enter Try.func16, Try.ntmps16
  go_wp2_with (first | (at_make; refine wpList_make_full _ rfl _ _ 29 rfl w.heap.size 43 i0 _ 7 Try.underlying29 hi hz0 hz1 .i64 .i64 _ _ l.length rfl rfl rfl rfl (by rw [hz2]; omega) (by unfold maxLen; omega) (Nat.le_refl _) ?_; intro w1 hown1 hgrow1))
  have hz : (madeCells (Value.agg #[.int .i64 0, .int .i64 0, .int .i64 0, .int .i64 0, .int .i64 0, .int .i64 0, .bool false]).cells (l.length * 7)).toList.length = l.length * 7 := hown1.1
  obtain ⟨hlen1, hrow1⟩ := hown1
  have hb1 : Below w.heap.size w w1 := (Below.refl _ _).grown hgrow1 (Nat.le_refl _) (fun k e => by cases e)
  obtain ⟨cur, hcur, hsz⟩ : ∃ cur, w1.heap[w.heap.size]? = some (.cells cur 43 (0, 0)) ∧ cur.size = l.length * 7 := by
    rcases hrow1 with ⟨h, _⟩ | ⟨g, cap, cur, h, _, hh, _, _, hs, _⟩
    · cases h
    · simp at h
      obtain ⟨rfl, rfl⟩ := h
      exact ⟨cur, hh, hs⟩
  clear hlen1 hrow1 hz hgrow1
  have hth : ∀ i, i < l.length → w1.there w.heap.size (i * 7) 7 := fun i hi => there_of_block hcur _ _ (by omega)
  have hgr1 : w.heap.size < w1.heap.size := lt_of_block hcur
  go_loopw [4] (fun v wr => ∃ k : Nat, k ≤ l.length ∧ v = .int .i64 k ∧ Below w.heap.size w wr ∧ w.heap.size < wr.heap.size ∧ (∀ i, i < l.length → wr.there w.heap.size (i * 7) 7) ∧ (∀ (i : Nat) (s : Stp), i < k → l[i]? = some s → wr.rangeAt w.heap.size (i * 7) s.cells))
    (fun v _ => l.length - (intOf v).toNat)
  case atStart => exact ⟨0, Nat.zero_le _, rfl, hb1, hgr1, hth, fun i s h => absurd h (by omega)⟩
  case round =>
    obtain ⟨k, hk, rfl, hb, hgr, hthr, hdone⟩ := hrel
    by_cases hlt : k < l.length
    · obtain ⟨s, hsk⟩ : ∃ s, l[k]? = some s := ⟨l[k], List.getElem?_eq_getElem hlt⟩
      have hne : l ≠ [] := by intro e; subst e; simp at hlt
      obtain rfl := hs.here hne
      have hbw := hs.lt hne
      obtain ⟨c0, c1, c2, c3, c4, c5, c6⟩ := (hs.below hb (fun _ => hbw)).seven hsk
      go_wp2_with fail
      refine (toStep_any _ _ _ _ _ _ _ _).mono ?_
      rintro e w2 ⟨rfl, hb2⟩
      have hth2 : w2.there w.heap.size (k * 7) 7 := there_below (hthr k hlt) hb2 hgr
      have HT : Hid (w2.there w.heap.size (k * 7) 7) := hth2
      go_wp2_with (refine store_step rfl (.tmp 21) (.tmp 20) rfl w.heap.size (k * 7) s rfl rfl hth2 ?_; clear hth2)
      go_roundw
      case rel =>
        refine ⟨k + 1, by omega, by go_num, below_setCells (Nat.le_refl _) _ _ _ _ (hb.trans (hb2.mono (by have := hb.size; omega))), ?_, ?_, ?_⟩
        · rw [size_setCells]; have := hb2.size; omega
        · intro i hi
          exact World.there_setCells (there_below (hthr i hi) hb2 hgr) _ _ _
        · intro i s' hi hs'
          by_cases hik : i = k
          · subst hik
            obtain rfl : s = s' := by rw [hsk] at hs'; simpa using hs'
            exact World.rangeAt_setCells_same _ _ _ _ HT.out
          · exact World.rangeAt_setCells_apart (range_below (hdone i s' (by omega) hs') hb2 hgr) _ _ _ (by right; left; simp; omega)
      case measure => simp [intOf]; omega
    · have hkl : k = l.length := by omega
      subst hkl
      go_wp2
      go_ret
      exact ⟨w.heap.size, rfl, Nat.le_refl _, hgr, ⟨fun _ => rfl, fun _ => hgr, fun i s hi => by simpa using hdone i s (List.getElem?_eq_some_iff.1 hi).1 hi⟩, hb, hthr⟩

theorem toSteps_any (a : Option Addr) (b o cap : Nat) (l : List Stp) (w : World) (hl : l.length ≤ 1048576) (hs : StepsAt w a b o l) :
    Calls Try.prog 16 #[.slice a l.length cap] w
      fun e w' => ∃ g, e = .returned (.slice (some ⟨g, 0, none⟩) l.length l.length) ∧ w.heap.size ≤ g ∧ g < w'.heap.size ∧ StepsAt w' (some ⟨g, 0, none⟩) g 0 l ∧ Below w.heap.size w w' :=
  (toSteps_more a b o cap l w hl hs).mono fun _ _ ⟨g, h1, h2, h3, h4, h5, _⟩ => ⟨g, h1, h2, h3, h4, h5⟩
end Go.Proofs.Ytedmnlognekdkaa

namespace Go.Proofs.Ytedmnlognekdkaa
open Go.RowKit


/-- A store anywhere leaves places that can be written. -/
theorem there_set {w : World} {b o n : Nat} (h : w.there b o n) (pb po : Nat) (v : Value) : (w.setCell ⟨pb, po, none⟩ v).there b o n := World.there_setCells h pb po [v]

theorem szSteps_any (a : Option Addr) (n cap : Nat) (left : Int) (w : World) (hn : n ≤ maxLen) (h0 : -1 ≤ left) (h1 : left ≤ 1048576) :
    Calls Try.prog 11 #[.slice a n cap, .int .i64 left] w fun e w' => e = .returned (.int .i64 (leftB left n)) ∧ w' = w := by
  unfold maxLen at hn
  by_cases h : left - n < 0
  · go_enter Try.func11, Try.ntmps11
    go_wp2
    go_ret
    exact ⟨by simp [leftB, h], rfl⟩
  · go_enter Try.func11, Try.ntmps11
    go_wp2
    go_ret
    exact ⟨by rw [leftB, if_neg (by omega)]; rfl, rfl⟩


theorem szPath_any (q s fr b : Int) (a : Option Addr) (n cap : Nat) (left : Int) (w : World) (hn : n ≤ maxLen) (h0 : -1 ≤ left) (h1 : left ≤ 1048576) :
    Calls Try.prog 4 #[.agg #[.int .i64 q, .int .i64 s, .slice a n cap, .int .i64 fr, .int .i64 b], .int .i64 left] w fun e w' => e = .returned (.int .i64 (leftB left n)) ∧ Below w.heap.size w w' := by
  have hb := (Below.refl w.heap.size w).alloc (Nat.le_refl _) (.cells #[.int .i64 q, .int .i64 s, .slice a n cap, .int .i64 fr, .int .i64 b] 26)
  obtain ⟨k0, _⟩ := leftB_left left n h0 h1
  by_cases h : leftB left n < 0
  · have e1 : leftB left n = -1 := by omega
    go_enter Try.func4, Try.ntmps4
    go_wp2_with (go_at_call 11; refine (szSteps_any _ _ _ _ _ hn h0 h1).mono ?_; rintro e w' ⟨rfl, rfl⟩)
    go_ret
    exact ⟨by rw [e1]; rfl, hb⟩
  · go_enter Try.func4, Try.ntmps4
    go_wp2_with (go_at_call 11; refine (szSteps_any _ _ _ _ _ hn h0 h1).mono ?_; rintro e w' ⟨rfl, rfl⟩)
    go_ret
    exact ⟨rfl, hb⟩

set_option maxHeartbeats 1000000 in
theorem toPath_more (q s fr b : Int) (a : Option Addr) (b0 o cap : Nat) (l : List Stp) (w : World) (hl : l.length ≤ 1048576) (hs : StepsAt w a b0 o l) :
    Calls Try.prog 6 #[.agg #[.int .i64 q, .int .i64 s, .slice a l.length cap, .int .i64 fr, .int .i64 b]] w
      fun e w' => ∃ g, e = .returned (.agg #[.int .i64 q, .int .i64 s, .slice (some ⟨g, 0, none⟩) l.length l.length, .int .i64 fr, .int .i64 b]) ∧ w.heap.size ≤ g ∧ g < w'.heap.size ∧ StepsAt w' (some ⟨g, 0, none⟩) g 0 l ∧ Below w.heap.size w w' ∧ ∀ i, i < l.length → w'.there g (i * 7) 7 := by
  go_enter Try.func6, Try.ntmps6
  go_wp2_with fail
  refine (toKind_any _ _ _).mono ?_
  rintro e w1 ⟨rfl, hb1⟩
  obtain ⟨hc1, hf1⟩ := old_cells hb1
  have hz1 := hb1.size
  simp at hz1
  have hb01 : Below w.heap.size w w1 := ((((Below.refl w.heap.size w).alloc (Nat.le_refl _) _).alloc (by simp) _).alloc (by simp; omega) _).trans (hb1.mono (by simp; omega))
  have hs1 := hs.below hb01 (fun h => hs.lt h)
  go_wp2_with fail
  refine (toSteps_more _ b0 o _ _ _ hl ?_).mono ?_
  · exact hs.below ((hb01.setCell (by simp; omega) _).setCell (by simp; omega) _) (fun h => hs.lt h)
  rintro e w2 ⟨g, rfl, hg1, hg2, hs2, hb2, hth⟩
  have HTH : Hid (∀ i, i < l.length → w2.there g (i * 7) 7) := hth
  clear hth
  obtain ⟨hc2, hf2⟩ := old_cells hb2
  have hz2 := hb2.size
  simp [World.setCell] at hz2 hg1
  have hb02 : Below w.heap.size w w2 := ((hb01.setCell (by simp; omega) _).setCell (by simp; omega) _).trans (hb2.mono (by simp [World.setCell]; omega))
  have hC1 : ∀ b o, b < w.heap.size + 3 → w1.cell? ⟨b, o, none⟩ = _ := fun b o h => hc1 b o (by simp; omega)
  have hF1 : ∀ b o, b < w.heap.size + 3 → w1.frozen? ⟨b, o, none⟩ = _ := fun b o h => hf1 b o (by simp; omega)
  have hC2 : ∀ b o, b < w.heap.size + 3 → w2.cell? ⟨b, o, none⟩ = _ := fun b o h => hc2 b o (by simp [World.setCell]; omega)
  have hF2 : ∀ b o, b < w.heap.size + 3 → w2.frozen? ⟨b, o, none⟩ = _ := fun b o h => hf2 b o (by simp [World.setCell]; omega)
  clear hc1 hf1 hc2 hf2
  have a3 : w2.cell? ⟨w.heap.size, 3, none⟩ = some (.int .i64 fr) := by rw [hC2 _ _ (by omega)]; simp [go_sem, hC1]
  have a4 : w2.cell? ⟨w.heap.size, 4, none⟩ = some (.int .i64 b) := by rw [hC2 _ _ (by omega)]; simp [go_sem, hC1]
  have o0 : w2.cell? ⟨w.heap.size + 1 + 1, 0, none⟩ = some (.int .i64 q) := by rw [hC2 _ _ (by omega)]; simp [go_sem, hC1]
  have o1 : w2.cell? ⟨w.heap.size + 1 + 1, 1, none⟩ = some (.int .i64 s) := by rw [hC2 _ _ (by omega)]; simp [go_sem, hC1]
  have o2 : w2.cell? ⟨w.heap.size + 1 + 1, 2, none⟩ = some (.slice none 0 0) := by rw [hC2 _ _ (by omega)]; simp [go_sem, hC1]
  have o3 : w2.cell? ⟨w.heap.size + 1 + 1, 3, none⟩ = some (.int .i64 0) := by rw [hC2 _ _ (by omega)]; simp [go_sem, hC1]
  have o4 : w2.cell? ⟨w.heap.size + 1 + 1, 4, none⟩ = some (.int .i64 0) := by rw [hC2 _ _ (by omega)]; simp [go_sem, hC1]
  have fo : ∀ j, w2.frozen? ⟨w.heap.size + 1 + 1, j, none⟩ = false := by intro j; rw [hF2 _ _ (by omega)]; simp [go_sem, hF1]
  have r0 : w2.cell? ⟨w.heap.size + 1, 0, none⟩ = some (.int .i64 0) := by rw [hC2 _ _ (by omega)]; simp [go_sem, hC1]
  have r1 : w2.cell? ⟨w.heap.size + 1, 1, none⟩ = some (.int .i64 0) := by rw [hC2 _ _ (by omega)]; simp [go_sem, hC1]
  have r2 : w2.cell? ⟨w.heap.size + 1, 2, none⟩ = some (.slice none 0 0) := by rw [hC2 _ _ (by omega)]; simp [go_sem, hC1]
  have r3 : w2.cell? ⟨w.heap.size + 1, 3, none⟩ = some (.int .i64 0) := by rw [hC2 _ _ (by omega)]; simp [go_sem, hC1]
  have r4 : w2.cell? ⟨w.heap.size + 1, 4, none⟩ = some (.int .i64 0) := by rw [hC2 _ _ (by omega)]; simp [go_sem, hC1]
  have fr1 : ∀ j, w2.frozen? ⟨w.heap.size + 1, j, none⟩ = false := by intro j; rw [hF2 _ _ (by omega)]; simp [go_sem, hF1]
  clear hC1 hC2 hF1 hF2 hs1 hb01 hb1 hs
  go_wp2
  refine bodyPost_ret (v := .agg #[.int .i64 q, .int .i64 s, .slice (some ⟨g, 0, none⟩) l.length l.length, .int .i64 fr, .int .i64 b]) (by simp [results, Try.results6, go_sem, *]) rfl ⟨g, rfl, by omega, ?_, ?_, ?_, ?_⟩
  · simpa [World.setCell] using hg2
  · iterate 8 (refine StepsAt.set ?_ (by simp; omega) _)
    exact hs2
  · iterate 8 (refine Below.setCell ?_ (by simp <;> omega) _)
    exact hb02
  · intro i hi
    iterate 8 (refine there_set ?_ _ _ _)
    exact HTH.out i hi

theorem toPath_any (q s fr b : Int) (a : Option Addr) (b0 o cap : Nat) (l : List Stp) (w : World) (hl : l.length ≤ 1048576) (hs : StepsAt w a b0 o l) :
    Calls Try.prog 6 #[.agg #[.int .i64 q, .int .i64 s, .slice a l.length cap, .int .i64 fr, .int .i64 b]] w
      fun e w' => ∃ g, e = .returned (.agg #[.int .i64 q, .int .i64 s, .slice (some ⟨g, 0, none⟩) l.length l.length, .int .i64 fr, .int .i64 b]) ∧ w.heap.size ≤ g ∧ g < w'.heap.size ∧ StepsAt w' (some ⟨g, 0, none⟩) g 0 l ∧ Below w.heap.size w w' :=
  (toPath_more q s fr b a b0 o cap l w hl hs).mono fun _ _ ⟨g, h1, h2, h3, h4, h5, _⟩ => ⟨g, h1, h2, h3, h4, h5⟩
end Go.Proofs.Ytedmnlognekdkaa

namespace Go.Proofs.Ytedmnlognekdkaa
open Go.RowKit

set_option maxHeartbeats 4000000 in
set_option maxRecDepth 20000 in
theorem markSteps_any (k0 : Int) (g cap n : Nat) (w : World) (hn : n ≤ 1048576) (hk : 0 ≤ k0 ∧ k0 ≤ 1000) (hth : ∀ i, i < n → w.there g (i * 7) 7) :
    Calls Try.prog 21 #[.slice (some ⟨g, 0, none⟩) n cap, .int .i64 k0] w
      fun e w' => e = .returned (.int .i64 (k0 + ((n * 7 : Nat) : Int))) ∧ w.grownBy w' (some g) ∧ w'.heap.size = w.heap.size := by
  obtain ⟨k1, k2⟩ := hk
  go_enter Try.func21, Try.ntmps21
  go_wp2
  go_loopw [1, 5] (fun v u wr => ∃ i : Nat, i ≤ n ∧ u = .int .i64 i ∧ v = .int .i64 (k0 + ((i * 7 : Nat) : Int)) ∧ (∀ j, j < n → wr.there g (j * 7) 7) ∧ w.grownBy wr (some g) ∧ wr.heap.size = w.heap.size) (fun _ u _ => n - (intOf u).toNat)
  case atStart => exact ⟨0, Nat.zero_le _, rfl, by simp, hth, ⟨rfl, rfl, rfl, Nat.le_refl _, fun _ _ _ => rfl⟩, rfl⟩
  case round =>
    clear hth
    obtain ⟨i, hi, rfl, rfl, hth, hg, hz⟩ := hrel
    by_cases hlt : i < n
    · have ht := hth i hlt
      obtain ⟨v0, c0⟩ := Option.isSome_iff_exists.1 (ht 0 (by omega)).1
      obtain ⟨v1, c1⟩ := Option.isSome_iff_exists.1 (ht 1 (by omega)).1
      obtain ⟨v2, c2⟩ := Option.isSome_iff_exists.1 (ht 2 (by omega)).1
      obtain ⟨v3, c3⟩ := Option.isSome_iff_exists.1 (ht 3 (by omega)).1
      obtain ⟨v4, c4⟩ := Option.isSome_iff_exists.1 (ht 4 (by omega)).1
      obtain ⟨v5, c5⟩ := Option.isSome_iff_exists.1 (ht 5 (by omega)).1
      obtain ⟨v6, c6⟩ := Option.isSome_iff_exists.1 (ht 6 (by omega)).1
      have f0 := (ht 0 (by omega)).2
      have f1 := (ht 1 (by omega)).2
      have f2 := (ht 2 (by omega)).2
      have f3 := (ht 3 (by omega)).2
      have f4 := (ht 4 (by omega)).2
      have f5 := (ht 5 (by omega)).2
      have f6 := (ht 6 (by omega)).2
      rw [Nat.add_zero] at c0 f0
      have i0 : (0 : Int) ≤ (i : Int) := by omega
      have i1 : (i : Int) < (n : Int) := by omega
      have HT : Hid (∀ j, j < n → wr.there g (j * 7) 7) := hth
      have HG : Hid (w.grownBy wr (some g)) := hg
      have HZ : Hid (wr.heap.size = w.heap.size) := hz
      clear ht hth hg hz
      generalize hK : k0 + ((i * 7 : Nat) : Int) = K
      have b1 : 0 ≤ K ∧ K ≤ 10000000 := by omega
      obtain ⟨b2, b3⟩ := b1
      have EK : Hid (k0 + ((i * 7 : Nat) : Int) = K) := hK
      clear hK
      go_wp2
      go_roundw
      case rel =>
        have hK := EK.out
        refine ⟨i + 1, by omega, by go_num, by congr 1; omega, ?_, ?_, by simpa [World.setCell] using HZ.out⟩
        · intro j hj
          iterate 7 (refine there_set ?_ _ _ _)
          exact HT.out j hj
        · exact grown_over2 HG.out (grown_over2 (grown_over2 (grown_over2 (grown_over2 (grown_over2 (grown_over2 (grown_set wr ⟨g, i * 7, none⟩ _) (grown_set _ ⟨g, i * 7 + 1, none⟩ _)) (grown_set _ ⟨g, i * 7 + 2, none⟩ _)) (grown_set _ ⟨g, i * 7 + 3, none⟩ _)) (grown_set _ ⟨g, i * 7 + 4, none⟩ _)) (grown_set _ ⟨g, i * 7 + 5, none⟩ _)) (grown_set _ ⟨g, i * 7 + 6, none⟩ _))
      case measure => simp [intOf]; omega
    · obtain rfl : i = n := by omega
      go_wp2
      go_ret
      exact ⟨rfl, hg, hz⟩

theorem markPath_any (q s fr b k0 : Int) (g cap n : Nat) (w : World) (hn : n ≤ 1048576) (hk : 0 ≤ k0 ∧ k0 ≤ 1000) (hgw : g < w.heap.size) (hth : ∀ i, i < n → w.there g (i * 7) 7) :
    Calls Try.prog 9 #[.agg #[.int .i64 q, .int .i64 s, .slice (some ⟨g, 0, none⟩) n cap, .int .i64 fr, .int .i64 b], .int .i64 k0] w
      fun e w' => e = .returned (.int .i64 (k0 + ((n * 7 : Nat) : Int))) ∧ w.grownBy w' (some g) := by
  have hal := World.grownBy_alloc w (.cells #[.int .i64 q, .int .i64 s, .slice (some ⟨g, 0, none⟩) n cap, .int .i64 fr, .int .i64 b] 31) (some g)
  go_enter Try.func9, Try.ntmps9
  go_wp2_with fail
  refine (markSteps_any _ g _ n _ hn hk (fun i hi => there_below (hth i hi) ((Below.refl _ _).alloc (Nat.le_refl _) _) hgw)).mono ?_
  rintro e w1 ⟨rfl, hg1, hz1⟩
  go_wp2
  go_ret
  exact ⟨rfl, grown_over2 hal hg1⟩
end Go.Proofs.Ytedmnlognekdkaa

namespace Go.Proofs.Ytedmnlognekdkaa
open Go.RowKit

/-- The i-th step is within its bounds. -/
def okS (l : List Stp) (i : Nat) : Bool := stepB (l.getD i .zero).x (l.getD i .zero).y (l.getD i .zero).lo (l.getD i .zero).hi (l.getD i .zero).fr (l.getD i .zero).by_
def okTo (l : List Stp) (k : Nat) : Bool := (List.range k).all (okS l)
/-- The (i + 1)-th step follows the i-th, as the program asks it. -/
def folS (l : List Stp) (i : Nat) : Bool :=
  folB (l.getD (i + 1) .zero).x (l.getD (i + 1) .zero).y (l.getD (i + 1) .zero).lo (l.getD (i + 1) .zero).hi (l.getD i .zero).x (l.getD i .zero).y (l.getD i .zero).lo (l.getD i .zero).hi
def folTo (l : List Stp) (k : Nat) : Bool := (List.range k).all (folS l)

theorem all_succ (f : Nat → Bool) (k : Nat) : (List.range (k + 1)).all f = ((List.range k).all f && f k) := by
  simp [List.range_succ, List.all_append]
theorem all_not {f : Nat → Bool} {k n : Nat} (hk : k < n) (h : f k = false) : (List.range n).all f = false := by
  simp; exact ⟨k, hk, h⟩

theorem wrap64_small (x : Int) (h0 : -100 ≤ x) (h1 : x ≤ 100) : wrap64 x = x := by
  simp only [wrap64]; omega

theorem fol_comm {p t : Stp} (hp : stepB p.x p.y p.lo p.hi p.fr p.by_ = true) (ht : stepB t.x t.y t.lo t.hi t.fr t.by_ = true) :
    folB t.x t.y t.lo t.hi p.x p.y p.lo p.hi = folB p.x p.y p.lo p.hi t.x t.y t.lo t.hi := by
  simp only [stepB, decide_eq_true_eq] at hp ht
  unfold folB inB levB
  rw [wrap64_small (t.x - p.x) (by omega) (by omega), wrap64_small (t.y - p.y) (by omega) (by omega), wrap64_small (p.x - t.x) (by omega) (by omega), wrap64_small (p.y - t.y) (by omega) (by omega)]
  rw [Bool.eq_iff_iff]
  simp
  omega

/-- The program's five checks come to the specification's test. -/
theorem checks_path (q s fr b : Int) (l : List Stp) :
    (kindB q s && inB l.length 1 40 && okTo l l.length && folTo l (l.length - 1) && ordB 0 fr b 10000) = pathB q s fr b l := by
  have e1 : ordB 0 fr b 10000 = (inB fr 0 b && decide (b ≤ 10000)) := by rw [Bool.eq_iff_iff]; simp [ordB, inB]; omega
  have e2 : (okTo l l.length && folTo l (l.length - 1)) = goodTo l l.length := by
    rw [Bool.eq_iff_iff]
    simp only [okTo, folTo, goodTo, Bool.and_eq_true, List.all_eq_true, List.mem_range]
    constructor
    · rintro ⟨h1, h2⟩ i hi
      unfold goodS
      have k1 : stepB _ _ _ _ _ _ = true := h1 i hi
      rw [k1]
      cases i with
      | zero => rfl
      | succ m =>
        have k2 : stepB _ _ _ _ _ _ = true := h1 m (by omega)
        have k3 : folB _ _ _ _ _ _ _ _ = true := h2 m (by omega)
        rw [fol_comm k2 k1] at k3
        simp only [Nat.add_sub_cancel]
        rw [k3]; simp
    · intro h
      have h1 : ∀ i, i < l.length → okS l i = true := fun i hi => by
        have := h i hi
        unfold goodS at this
        exact (Bool.and_eq_true_iff.1 this).1
      refine ⟨h1, fun i hi => ?_⟩
      have := (Bool.and_eq_true_iff.1 (h (i + 1) (by omega))).2
      simp only [Nat.add_sub_cancel] at this
      have k0 : decide (i + 1 = 0) = false := by simp
      rw [k0, Bool.false_or] at this
      unfold folS
      rw [fol_comm (h1 i (by omega)) (h1 (i + 1) (by omega))]
      exact this
  unfold pathB
  rw [e1, ← e2]
  cases kindB q s <;> cases inB l.length 1 40 <;> cases okTo l l.length <;> cases folTo l (l.length - 1) <;> cases inB fr 0 b <;> cases decide (b ≤ 10000) <;> rfl
end Go.Proofs.Ytedmnlognekdkaa

namespace Go.Proofs.Ytedmnlognekdkaa
open Go.RowKit

def lowB (fr : Int) (l : List Stp) (k : Nat) : Int := if k < l.length then (l.getD k .zero).fr else fr
def highB (b : Int) (l : List Stp) (k : Nat) : Int := if k < l.length then (l.getD k .zero).by_ else b
def mostB (s : Int) (l : List Stp) (k : Nat) : Int := if (l.getD k .zero).ho then 10000 else s
/-- The k-th tick is within its window. -/
def winS (fr b : Int) (l : List Stp) (zs : List Int) (k : Nat) : Bool := inB (zs.getD k 0) (lowB fr l k) (highB b l k)
/-- From the k-th tick to the next there are as many ticks as there may be. -/
def stayS (q s : Int) (l : List Stp) (zs : List Int) (k : Nat) : Bool := inB (zs.getD (k + 1) 0 - zs.getD k 0) q (mostB s l k)
/-- As the specification asks it of the k-th tick. -/
def tickS (q s fr b : Int) (l : List Stp) (zs : List Int) (k : Nat) : Bool := winS fr b l zs k && (decide (k = 0) || stayS q s l zs (k - 1))
def tickTo (q s fr b : Int) (l : List Stp) (zs : List Int) (k : Nat) : Bool := (List.range k).all (tickS q s fr b l zs)
def winTo (fr b : Int) (l : List Stp) (zs : List Int) (k : Nat) : Bool := (List.range k).all (winS fr b l zs)
def stayTo (q s : Int) (l : List Stp) (zs : List Int) (k : Nat) : Bool := (List.range k).all (stayS q s l zs)
/-- A flight keeps to a path. -/
def lawB (q s fr b : Int) (l : List Stp) (zs : List Int) : Bool := pathB q s fr b l && decide (zs.length = l.length + 1) && tickTo q s fr b l zs (l.length + 1)

theorem ticks_parts (q s fr b : Int) (l : List Stp) (zs : List Int) (n : Nat) : (winTo fr b l zs (n + 1) && stayTo q s l zs n) = tickTo q s fr b l zs (n + 1) := by
  rw [Bool.eq_iff_iff]
  simp only [winTo, stayTo, tickTo, Bool.and_eq_true, List.all_eq_true, List.mem_range]
  constructor
  · rintro ⟨h1, h2⟩ i hi
    unfold tickS
    rw [h1 i hi]
    cases i with
    | zero => rfl
    | succ m =>
      have k := h2 m (by omega)
      simp only [Nat.add_sub_cancel]
      rw [k]; simp
  · intro h
    refine ⟨fun i hi => (Bool.and_eq_true_iff.1 (h i hi)).1, fun i hi => ?_⟩
    have := (Bool.and_eq_true_iff.1 (h (i + 1) (by omega))).2
    simpa using this

/-- Of a path that is ok: its windows lie between 0 and 10000. -/
theorem bounds_ok {q s fr b : Int} {l : List Stp} (h : pathB q s fr b l = true) (k : Nat) : 0 ≤ lowB fr l k ∧ highB b l k ≤ 10000 := by
  simp only [pathB, Bool.and_eq_true, decide_eq_true_eq] at h
  obtain ⟨⟨⟨⟨_, _⟩, h3⟩, h4⟩, h5⟩ := h
  have h3' := (inB_iff _ _ _).1 h3
  unfold lowB highB
  by_cases hk : k < l.length
  · rw [if_pos hk, if_pos hk]
    simp only [goodTo, List.all_eq_true, List.mem_range] at h5
    have := (Bool.and_eq_true_iff.1 (h5 k hk)).1
    simp only [stepB, decide_eq_true_eq] at this
    omega
  · rw [if_neg hk, if_neg hk]
    omega
theorem win_range {q s fr b : Int} {l : List Stp} {zs : List Int} {k : Nat} (h : pathB q s fr b l = true) (hw : winS fr b l zs k = true) : 0 ≤ zs.getD k 0 ∧ zs.getD k 0 ≤ 10000 := by
  have h1 := bounds_ok h k
  have h2 := (inB_iff _ _ _).1 hw
  omega
theorem path_len {q s fr b : Int} {l : List Stp} (h : pathB q s fr b l = true) : 1 ≤ l.length ∧ l.length ≤ 40 := by
  simp only [pathB, Bool.and_eq_true, decide_eq_true_eq] at h
  have := (inB_iff _ _ _).1 h.1.1.1.2
  omega
theorem tickTo_zero (q s fr b : Int) (l : List Stp) (zs : List Int) : tickTo q s fr b l zs 0 = true := rfl
theorem tickTo_succ {q s fr b : Int} {l : List Stp} {zs : List Int} {k : Nat} (h : tickTo q s fr b l zs k = true) : tickTo q s fr b l zs (k + 1) = tickS q s fr b l zs k := by
  unfold tickTo at *; rw [all_succ, h]; simp
theorem tickTo_win {q s fr b : Int} {l : List Stp} {zs : List Int} {k i : Nat} (h : tickTo q s fr b l zs k = true) (hi : i < k) : winS fr b l zs i = true := by
  simp only [tickTo, List.all_eq_true, List.mem_range] at h
  exact (Bool.and_eq_true_iff.1 (h i hi)).1
theorem tickTo_not {q s fr b : Int} {l : List Stp} {zs : List Int} {k n : Nat} (hk : k < n) (h : tickS q s fr b l zs k = false) : tickTo q s fr b l zs n = false := all_not hk h
end Go.Proofs.Ytedmnlognekdkaa

namespace Go.Proofs.Ytedmnlognekdkaa
open Go.RowKit

def mxB (a b : Int) : Int := if b < a then a else b
def mnB (a b : Int) : Int := if a < b then a else b
theorem mxB_le (a b : Int) : a ≤ mxB a b ∧ b ≤ mxB a b ∧ (mxB a b = a ∨ mxB a b = b) := by unfold mxB; split <;> omega
theorem mnB_le (a b : Int) : mnB a b ≤ a ∧ mnB a b ≤ b ∧ (mnB a b = a ∨ mnB a b = b) := by unfold mnB; split <;> omega

/-- Forward: the least and the greatest k-th tick, by the ticks ahead of it. -/
def fwdS (q s fr b : Int) (l : List Stp) : Nat → Int × Int
  | 0 => (lowB fr l 0, highB b l 0)
  | k + 1 => (mxB (lowB fr l (k + 1)) ((fwdS q s fr b l k).1 + q), mnB (highB b l (k + 1)) ((fwdS q s fr b l k).2 + mostB s l k))
/-- Back: j ticks ahead of the last one. -/
def bwdS (q s fr b : Int) (l : List Stp) (n : Nat) : Nat → Int × Int
  | 0 => fwdS q s fr b l n
  | j + 1 => (mxB (fwdS q s fr b l (n - (j + 1))).1 ((bwdS q s fr b l n j).1 - mostB s l (n - (j + 1))), mnB (fwdS q s fr b l (n - (j + 1))).2 ((bwdS q s fr b l n j).2 - q))
def someB (x : Int × Int) : Bool := decide (x.1 ≤ x.2)
def fwdTo (q s fr b : Int) (l : List Stp) (k : Nat) : Bool := (List.range k).all fun i => someB (fwdS q s fr b l i)
def bwdTo (q s fr b : Int) (l : List Stp) (n k : Nat) : Bool := (List.range k).all fun i => someB (bwdS q s fr b l n i)
/-- There is a flight along the path. -/
def spanB (q s fr b : Int) (l : List Stp) : Bool := fwdTo q s fr b l (l.length + 1) && bwdTo q s fr b l l.length (l.length + 1)
/-- The spans. -/
def spansL (q s fr b : Int) (l : List Stp) : List (Int × Int) := if spanB q s fr b l then (List.range (l.length + 1)).map fun k => bwdS q s fr b l l.length (l.length - k) else []

abbrev spanC (x : Int × Int) : List Value := [.int .i64 x.1, .int .i64 x.2]
/-- The cells of a list of spans. -/
def spanCells (xs : List (Int × Int)) : List Value := xs.flatMap spanC
theorem spanCells_snoc (xs : List (Int × Int)) (x : Int × Int) : spanCells (xs ++ [x]) = spanCells xs ++ spanC x := by simp [spanCells]
theorem spanCells_length (xs : List (Int × Int)) : (spanCells xs).length = xs.length * 2 := by
  induction xs with
  | nil => rfl
  | cons x xs ih => simp only [spanCells, List.flatMap_cons, List.length_append] at *; rw [ih]; simp; omega
theorem spanCells_get (xs : List (Int × Int)) : ∀ (i : Nat) (x : Int × Int), xs[i]? = some x → (spanCells xs)[i * 2]? = some (.int .i64 x.1) ∧ (spanCells xs)[i * 2 + 1]? = some (.int .i64 x.2) := by
  induction xs with
  | nil => intro i x h; simp at h
  | cons y ys ih =>
    intro i x h
    cases i with
    | zero => simp at h; subst h; simp [spanCells]
    | succ m =>
      simp at h
      obtain ⟨h1, h2⟩ := ih m x h
      have e : spanCells (y :: ys) = .int .i64 y.1 :: .int .i64 y.2 :: spanCells ys := by simp [spanCells]
      rw [e]
      refine ⟨?_, ?_⟩
      · rw [show (m + 1) * 2 = m * 2 + 1 + 1 by omega]; simpa using h1
      · rw [show (m + 1) * 2 + 1 = (m * 2 + 1) + 1 + 1 by omega]; simpa using h2

/-- The first k spans, forward. -/
def fwdL (q s fr b : Int) (l : List Stp) (k : Nat) : List (Int × Int) := (List.range k).map (fwdS q s fr b l)
theorem fwdL_succ (q s fr b : Int) (l : List Stp) (k : Nat) : fwdL q s fr b l (k + 1) = fwdL q s fr b l k ++ [fwdS q s fr b l k] := by simp [fwdL, List.range_succ]
theorem fwdL_length (q s fr b : Int) (l : List Stp) (k : Nat) : (fwdL q s fr b l k).length = k := by simp [fwdL]
theorem fwdL_get (q s fr b : Int) (l : List Stp) (k i : Nat) (h : i < k) : (fwdL q s fr b l k)[i]? = some (fwdS q s fr b l i) := by simp [fwdL, h]

theorem fwd_range {q s fr b : Int} {l : List Stp} (h : pathB q s fr b l = true) (k : Nat) : 0 ≤ (fwdS q s fr b l k).1 ∧ (fwdS q s fr b l k).2 ≤ 10000 := by
  have hb := bounds_ok h k
  cases k with
  | zero => exact hb
  | succ m =>
    have h1 := mxB_le (lowB fr l (m + 1)) ((fwdS q s fr b l m).1 + q)
    have h2 := mnB_le (highB b l (m + 1)) ((fwdS q s fr b l m).2 + mostB s l m)
    simp only [fwdS]
    omega
theorem kind_range {q s fr b : Int} {l : List Stp} (h : pathB q s fr b l = true) : 1 ≤ q ∧ q ≤ s ∧ s ≤ 50 := by
  simp only [pathB, Bool.and_eq_true, decide_eq_true_eq, kindB] at h
  exact h.1.1.1.1
theorem most_range {q s fr b : Int} {l : List Stp} (h : pathB q s fr b l = true) (k : Nat) : 1 ≤ mostB s l k ∧ mostB s l k ≤ 10000 := by
  have := kind_range h
  unfold mostB; split <;> omega
theorem fwdTo_at {q s fr b : Int} {l : List Stp} {k i : Nat} (h : fwdTo q s fr b l k = true) (hi : i < k) : (fwdS q s fr b l i).1 ≤ (fwdS q s fr b l i).2 := by
  simp only [fwdTo, List.all_eq_true, List.mem_range, someB, decide_eq_true_eq] at h
  exact h i hi
theorem fwdTo_succ {q s fr b : Int} {l : List Stp} {k : Nat} (h : fwdTo q s fr b l k = true) : fwdTo q s fr b l (k + 1) = someB (fwdS q s fr b l k) := by
  unfold fwdTo at *; rw [all_succ, h]; simp
theorem fwdTo_not {q s fr b : Int} {l : List Stp} {k n : Nat} (hk : k < n) (h : someB (fwdS q s fr b l k) = false) : fwdTo q s fr b l n = false := all_not hk h
end Go.Proofs.Ytedmnlognekdkaa

namespace Go.Proofs.Ytedmnlognekdkaa
open Go.RowKit

theorem most_quick {q s fr b : Int} {l : List Stp} (h : pathB q s fr b l = true) (k : Nat) : q ≤ mostB s l k := by
  have := kind_range h
  unfold mostB; split <;> omega

theorem bwd_in {q s fr b : Int} {l : List Stp} (hp : pathB q s fr b l = true) {n : Nat} (hf : fwdTo q s fr b l (n + 1) = true) : ∀ j, j ≤ n →
    (bwdS q s fr b l n j).1 ≤ (bwdS q s fr b l n j).2 ∧ (fwdS q s fr b l (n - j)).1 ≤ (bwdS q s fr b l n j).1 ∧ (bwdS q s fr b l n j).2 ≤ (fwdS q s fr b l (n - j)).2
  | 0, _ => by
    have := fwdTo_at hf (show n < n + 1 by omega)
    exact ⟨this, Int.le_refl _, Int.le_refl _⟩
  | j + 1, hj => by
    obtain ⟨h1, h2, h3⟩ := bwd_in hp hf j (by omega)
    obtain ⟨k, hk⟩ : ∃ k, n - (j + 1) = k ∧ n - j = k + 1 := ⟨n - (j + 1), rfl, by omega⟩
    rw [hk.2] at h2 h3
    have h0 := fwdTo_at hf (show k < n + 1 by omega)
    have hm := most_quick hp k
    simp only [fwdS] at h2 h3
    have m1 := mxB_le (lowB fr l (k + 1)) ((fwdS q s fr b l k).1 + q)
    have m2 := mnB_le (highB b l (k + 1)) ((fwdS q s fr b l k).2 + mostB s l k)
    simp only [bwdS]
    rw [hk.1]
    have m3 := mxB_le (fwdS q s fr b l k).1 ((bwdS q s fr b l n j).1 - mostB s l k)
    have m4 := mnB_le (fwdS q s fr b l k).2 ((bwdS q s fr b l n j).2 - q)
    refine ⟨?_, ?_, ?_⟩ <;> omega

theorem bwd_all {q s fr b : Int} {l : List Stp} (hp : pathB q s fr b l = true) {n : Nat} (hf : fwdTo q s fr b l (n + 1) = true) {k : Nat} (hk : k ≤ n + 1) : bwdTo q s fr b l n k = true := by
  unfold bwdTo
  rw [List.all_eq_true]
  intro i hi
  have := (bwd_in hp hf i (by have := List.mem_range.1 hi; omega)).1
  simpa [someB] using this

theorem span_fwd {q s fr b : Int} {l : List Stp} (hp : pathB q s fr b l = true) : spanB q s fr b l = fwdTo q s fr b l (l.length + 1) := by
  unfold spanB
  cases h : fwdTo q s fr b l (l.length + 1) with
  | false => rfl
  | true => rw [bwd_all hp h (Nat.le_refl _)]; rfl

/-- Windows within the ticks that there are: of a path that is ok, or of one that is ok but for its windows. -/
structure Wide (q s fr b : Int) (l : List Stp) : Prop where
  kind : 1 ≤ q ∧ q ≤ s ∧ s ≤ 50
  len : 1 ≤ l.length ∧ l.length ≤ 40
  win : ∀ k, 0 ≤ lowB fr l k ∧ highB b l k ≤ 10000
theorem Wide.of {q s fr b : Int} {l : List Stp} (h : pathB q s fr b l = true) : Wide q s fr b l := ⟨kind_range h, path_len h, bounds_ok h⟩
theorem Wide.fwd_range {q s fr b : Int} {l : List Stp} (h : Wide q s fr b l) (k : Nat) : 0 ≤ (fwdS q s fr b l k).1 ∧ (fwdS q s fr b l k).2 ≤ 10000 := by
  have hb := h.win k
  cases k with
  | zero => exact hb
  | succ m =>
    have h1 := mxB_le (lowB fr l (m + 1)) ((fwdS q s fr b l m).1 + q)
    have h2 := mnB_le (highB b l (m + 1)) ((fwdS q s fr b l m).2 + mostB s l m)
    simp only [fwdS]
    omega
theorem Wide.most_range {q s fr b : Int} {l : List Stp} (h : Wide q s fr b l) (k : Nat) : 1 ≤ mostB s l k ∧ mostB s l k ≤ 10000 := by
  have := h.kind
  unfold mostB; split <;> omega
theorem Wide.quick {q s fr b : Int} {l : List Stp} (h : Wide q s fr b l) (k : Nat) : q ≤ mostB s l k := by
  have := h.kind
  unfold mostB; split <;> omega
theorem Wide.bwd_in {q s fr b : Int} {l : List Stp} (hp : Wide q s fr b l) {n : Nat} (hf : fwdTo q s fr b l (n + 1) = true) : ∀ j, j ≤ n →
    (bwdS q s fr b l n j).1 ≤ (bwdS q s fr b l n j).2 ∧ (fwdS q s fr b l (n - j)).1 ≤ (bwdS q s fr b l n j).1 ∧ (bwdS q s fr b l n j).2 ≤ (fwdS q s fr b l (n - j)).2
  | 0, _ => by
    have := fwdTo_at hf (show n < n + 1 by omega)
    exact ⟨this, Int.le_refl _, Int.le_refl _⟩
  | j + 1, hj => by
    obtain ⟨h1, h2, h3⟩ := hp.bwd_in hf j (by omega)
    obtain ⟨k, hk⟩ : ∃ k, n - (j + 1) = k ∧ n - j = k + 1 := ⟨n - (j + 1), rfl, by omega⟩
    rw [hk.2] at h2 h3
    have h0 := fwdTo_at hf (show k < n + 1 by omega)
    have hm := hp.quick k
    simp only [fwdS] at h2 h3
    have m1 := mxB_le (lowB fr l (k + 1)) ((fwdS q s fr b l k).1 + q)
    have m2 := mnB_le (highB b l (k + 1)) ((fwdS q s fr b l k).2 + mostB s l k)
    simp only [bwdS]
    rw [hk.1]
    have m3 := mxB_le (fwdS q s fr b l k).1 ((bwdS q s fr b l n j).1 - mostB s l k)
    have m4 := mnB_le (fwdS q s fr b l k).2 ((bwdS q s fr b l n j).2 - q)
    refine ⟨?_, ?_, ?_⟩ <;> omega
theorem Wide.span_fwd {q s fr b : Int} {l : List Stp} (hp : Wide q s fr b l) : spanB q s fr b l = fwdTo q s fr b l (l.length + 1) := by
  unfold spanB
  cases h : fwdTo q s fr b l (l.length + 1) with
  | false => rfl
  | true =>
    have : bwdTo q s fr b l l.length (l.length + 1) = true := by
      unfold bwdTo
      rw [List.all_eq_true]
      intro i hi
      have := (hp.bwd_in h i (by have := List.mem_range.1 hi; omega)).1
      simpa [someB] using this
    rw [this]; rfl

/-- What FlySpans tells. -/
def flyL (q s fr b : Int) (l : List Stp) : List (Int × Int) := if pathB q s fr b l then spansL q s fr b l else []
def flyB (q s fr b : Int) (l : List Stp) : Bool := pathB q s fr b l && spanB q s fr b l
end Go.Proofs.Ytedmnlognekdkaa

namespace Go.Proofs.Ytedmnlognekdkaa
open Go.RowKit

/-- The row when j ticks ahead of the last one are done. -/
def backL (q s fr b : Int) (l : List Stp) (n j : Nat) : List (Int × Int) := (List.range (n + 1)).map fun i => if n - j ≤ i then bwdS q s fr b l n (n - i) else fwdS q s fr b l i

theorem backL_length (q s fr b : Int) (l : List Stp) (n j : Nat) : (backL q s fr b l n j).length = n + 1 := by simp [backL]
theorem backL_get (q s fr b : Int) (l : List Stp) (n j i : Nat) (h : i < n + 1) : (backL q s fr b l n j)[i]? = some (if n - j ≤ i then bwdS q s fr b l n (n - i) else fwdS q s fr b l i) := by simp [backL, h]
theorem backL_zero (q s fr b : Int) (l : List Stp) (n : Nat) : backL q s fr b l n 0 = fwdL q s fr b l (n + 1) := by
  unfold backL fwdL
  apply List.map_congr_left
  intro i hi
  have hi' := List.mem_range.1 hi
  by_cases h : n - 0 ≤ i
  · have e : i = n := by omega
    rw [if_pos h, e, Nat.sub_self]; rfl
  · rw [if_neg h]
theorem backL_all {q s fr b : Int} {l : List Stp} (h : spanB q s fr b l = true) : backL q s fr b l l.length l.length = spansL q s fr b l := by
  unfold backL spansL
  rw [if_pos h]
  apply List.map_congr_left
  intro i _
  rw [if_pos (by omega)]
theorem backL_now (q s fr b : Int) (l : List Stp) (n j : Nat) (h : j < n) : (backL q s fr b l n j)[n - (j + 1)]? = some (fwdS q s fr b l (n - (j + 1))) := by
  rw [backL_get _ _ _ _ _ _ _ _ (by omega), if_neg (by omega)]
theorem backL_next (q s fr b : Int) (l : List Stp) (n j : Nat) (h : j < n) : (backL q s fr b l n j)[n - (j + 1) + 1]? = some (bwdS q s fr b l n j) := by
  rw [backL_get _ _ _ _ _ _ _ _ (by omega), if_pos (by omega)]
  congr 2
  omega
theorem backL_succ (q s fr b : Int) (l : List Stp) (n j : Nat) (h : j < n) : backL q s fr b l n (j + 1) = (backL q s fr b l n j).set (n - (j + 1)) (bwdS q s fr b l n (j + 1)) := by
  apply List.ext_getElem?
  intro i
  by_cases hi : i < n + 1
  · rw [backL_get _ _ _ _ _ _ _ _ hi]
    by_cases e : n - (j + 1) = i
    · rw [← e, List.getElem?_set_self (by rw [backL_length]; omega), if_pos (by omega)]
      congr 2
      omega
    · rw [List.getElem?_set_ne e, backL_get _ _ _ _ _ _ _ _ hi]
      by_cases h2 : n - j ≤ i
      · rw [if_pos h2, if_pos (by omega)]
      · rw [if_neg h2, if_neg (by omega)]
  · rw [List.getElem?_eq_none (by rw [backL_length]; omega), List.getElem?_eq_none (by rw [List.length_set, backL_length]; omega)]

theorem spanCells_set : ∀ (xs : List (Int × Int)) (i : Nat) (x : Int × Int), spanCells (xs.set i x) = ((spanCells xs).set (i * 2) (.int .i64 x.1)).set (i * 2 + 1) (.int .i64 x.2)
  | [], i, x => by simp [spanCells]
  | y :: ys, 0, x => by simp [spanCells]
  | y :: ys, i + 1, x => by
    have ih := spanCells_set ys i x
    have e : ∀ zs : List (Int × Int), spanCells (y :: zs) = .int .i64 y.1 :: .int .i64 y.2 :: spanCells zs := fun zs => by simp [spanCells]
    rw [List.set_cons_succ, e, e, ih, show (i + 1) * 2 = i * 2 + 1 + 1 by omega]
    simp

/-- A store into a row that a call owns. -/
theorem owns_put {w : World} {base e size n g cap : Nat} {xs : List Value} (h : w.ownsRow base e size (.slice (some ⟨g, 0, none⟩) n cap) n xs) {j : Nat} (_hj : j < n * size) (u : Value) :
    (w.setCell ⟨g, j, none⟩ u).ownsRow base e size (.slice (some ⟨g, 0, none⟩) n cap) n (xs.set j u) := by
  refine ⟨by rw [List.length_set]; exact h.1, ?_⟩
  rcases h.2 with ⟨h0, _⟩ | ⟨g', cap', cur, h1, h2, h3, h4, h5, h6, h7⟩
  · cases h0
  · simp only [Value.slice.injEq, Option.some.injEq, Addr.mk.injEq, and_true, true_and] at h1
    obtain ⟨rfl, rfl⟩ := h1
    refine Or.inr ⟨g, cap, _, rfl, h2, heap_setCell_same w g j cur e u h3, h4, h5, by rw [Array.size_setIfInBounds]; exact h6, ?_⟩
    rw [← h7, Array.toList_setIfInBounds, List.take_set]
end Go.Proofs.Ytedmnlognekdkaa

namespace Go.Proofs.Ytedmnlognekdkaa
open Go.RowKit

/-- The box that holds the path. -/
structure BoxP (w wr : World) (q s fr b : Int) (v : Value) : Prop where
  old : Below w.heap.size w wr
  lt : w.heap.size < wr.heap.size
  p0 : wr.cell? ⟨w.heap.size, 0, none⟩ = some (.int .i64 q)
  p1 : wr.cell? ⟨w.heap.size, 1, none⟩ = some (.int .i64 s)
  p2 : wr.cell? ⟨w.heap.size, 2, none⟩ = some v
  p3 : wr.cell? ⟨w.heap.size, 3, none⟩ = some (.int .i64 fr)
  p4 : wr.cell? ⟨w.heap.size, 4, none⟩ = some (.int .i64 b)
theorem BoxP.below {w wr w2 : World} {q s fr b : Int} {v : Value} (h : BoxP w wr q s fr b v) (hb : Below wr.heap.size wr w2) : BoxP w w2 q s fr b v := by
  have c0 : ∀ j, w2.cell? ⟨w.heap.size, j, none⟩ = wr.cell? ⟨w.heap.size, j, none⟩ := fun j => hb.cell (p := ⟨w.heap.size, j, none⟩) h.lt
  exact ⟨h.old.trans (hb.mono (Nat.le_of_lt h.lt)), Nat.lt_of_lt_of_le h.lt hb.size, (c0 _).trans h.p0, (c0 _).trans h.p1, (c0 _).trans h.p2, (c0 _).trans h.p3, (c0 _).trans h.p4⟩
theorem BoxP.keep {w wr w2 : World} {q s fr b : Int} {v : Value} (h : BoxP w wr q s fr b v) (hb : Below (w.heap.size + 1) wr w2) : BoxP w w2 q s fr b v := by
  have c0 : ∀ j, w2.cell? ⟨w.heap.size, j, none⟩ = wr.cell? ⟨w.heap.size, j, none⟩ := fun j => hb.cell (p := ⟨w.heap.size, j, none⟩) (Nat.lt_succ_self _)
  exact ⟨h.old.trans (hb.mono (by omega)), Nat.lt_of_lt_of_le h.lt hb.size, (c0 _).trans h.p0, (c0 _).trans h.p1, (c0 _).trans h.p2, (c0 _).trans h.p3, (c0 _).trans h.p4⟩
theorem BoxP.new (w : World) (q s fr b : Int) (v : Value) (t : TypeId) : BoxP w (w.alloc (.cells #[.int .i64 q, .int .i64 s, v, .int .i64 fr, .int .i64 b] t)) q s fr b v :=
  ⟨(Below.refl _ _).alloc (Nat.le_refl _) _, by simp, by simp [go_sem], by simp [go_sem], by simp [go_sem], by simp [go_sem], by simp [go_sem]⟩
end Go.Proofs.Ytedmnlognekdkaa

namespace Go.Proofs.Ytedmnlognekdkaa
open Go.RowKit

/-- The cells of a list of steps. -/
def stepCells (l : List Stp) : List Value := l.flatMap Stp.cells
theorem stepCells_cons (t : Stp) (l : List Stp) : stepCells (t :: l) = t.cells ++ stepCells l := by simp [stepCells]
theorem stepCells_length (l : List Stp) : (stepCells l).length = l.length * 7 := by
  induction l with
  | nil => rfl
  | cons t l ih => rw [stepCells_cons, List.length_append, ih]; simp; omega
theorem stepCells_at : ∀ (l : List Stp) (i : Nat) (t : Stp) (j : Nat), l[i]? = some t → j < 7 → (stepCells l)[i * 7 + j]? = t.cells[j]?
  | [], i, t, j, h, _ => by simp at h
  | y :: ys, 0, t, j, h, hj => by
    simp at h
    subst h
    rw [stepCells_cons, List.getElem?_append_left (by simp; omega)]
    simp
  | y :: ys, i + 1, t, j, h, hj => by
    rw [stepCells_cons, List.getElem?_append_right (by simp; omega)]
    have ih := stepCells_at ys i t j (by simpa using h) hj
    rw [← ih]
    congr 1
    simp
    omega
theorem stepCells_one (l : List Stp) : ∀ u ∈ stepCells l, u.oneCell' = true := by
  intro u hu
  simp only [stepCells, List.mem_flatMap] at hu
  obtain ⟨t, _, h⟩ := hu
  simp at h
  rcases h with rfl | rfl | rfl | rfl | rfl | rfl | rfl <;> rfl
theorem steps_news {w : World} {b o : Nat} {l : List Stp} {a : Option Addr} (h : StepsAt w a b o l) : ∀ j u, (stepCells l)[j]? = some u → w.cell? ((⟨b, o, none⟩ : Addr).add j) = some u := by
  intro j u hj
  have hlt : j < l.length * 7 := by rw [← stepCells_length]; exact (List.getElem?_eq_some_iff.1 hj).1
  obtain ⟨i, r, hr, rfl⟩ : ∃ i r, r < 7 ∧ j = i * 7 + r := ⟨j / 7, j % 7, Nat.mod_lt _ (by decide), by omega⟩
  obtain ⟨t, ht⟩ : ∃ t, l[i]? = some t := ⟨l[i], List.getElem?_eq_getElem (by omega)⟩
  rw [stepCells_at l i t r ht hr] at hj
  have := h.cell i t ht r u hj
  rw [Addr.add_mid, ← Nat.add_assoc]
  exact this
theorem steps_owned {w : World} {base e n g cap : Nat} {l : List Stp} (h : w.ownsRow base e 7 (.slice (some ⟨g, 0, none⟩) n cap) n (stepCells l)) : StepsAt w (some ⟨g, 0, none⟩) g 0 l where
  here _ := rfl
  lt _ := (h.lt g rfl).2
  cell i t ht j u hu := by
    have hj : j < 7 := (List.getElem?_eq_some_iff.1 hu).1
    have hn : l.length * 7 = n * 7 := by rw [← stepCells_length]; exact h.1
    have hi : i < l.length := (List.getElem?_eq_some_iff.1 ht).1
    have := (h.cellAt (i * 7 + j) (by omega)).trans (stepCells_at l i t j ht hj)
    rw [Nat.zero_add]
    exact this.trans hu

theorem stopAt {p : Prop} (h : Hid p) : p := h.out

theorem stepCells_set : ∀ (l : List Stp) (i : Nat) (t u : Stp), l[i]? = some t → u = { t with fr := u.fr, by_ := u.by_ } → stepCells (l.set i u) = ((stepCells l).set (i * 7 + 4) (.int .i64 u.fr)).set (i * 7 + 5) (.int .i64 u.by_)
  | [], i, t, u, h, _ => by simp at h
  | y :: ys, 0, t, u, h, he => by
    simp at h
    subst h
    rw [List.set_cons_zero, stepCells_cons, stepCells_cons]
    have e1 : u.x = y.x := by rw [he]
    have e2 : u.y = y.y := by rw [he]
    have e3 : u.lo = y.lo := by rw [he]
    have e4 : u.hi = y.hi := by rw [he]
    have e5 : u.ho = y.ho := by rw [he]
    simp [e1, e2, e3, e4, e5]
  | y :: ys, i + 1, t, u, h, he => by
    have ih := stepCells_set ys i t u (by simpa using h) he
    rw [List.set_cons_succ, stepCells_cons, stepCells_cons, ih, show (i + 1) * 7 + 4 = i * 7 + 4 + 7 by omega, show (i + 1) * 7 + 5 = i * 7 + 5 + 7 by omega]
    simp

/-- A path lies in a block of its own. -/
structure PathAt (w : World) (B : Nat) (q s fr b : Int) (v : Value) : Prop where
  it : w.heap[B]? = some (.cells #[.int .i64 q, .int .i64 s, v, .int .i64 fr, .int .i64 b] 31 (0, 0))
theorem PathAt.new (w : World) (q s fr b : Int) (v : Value) : PathAt (w.alloc (.cells #[.int .i64 q, .int .i64 s, v, .int .i64 fr, .int .i64 b] 31)) w.heap.size q s fr b v := ⟨heap_alloc_new w _⟩
theorem PathAt.lt {w : World} {B : Nat} {q s fr b : Int} {v : Value} (h : PathAt w B q s fr b v) : B < w.heap.size := lt_of_block h.it
theorem PathAt.keep {w w' : World} {B N : Nat} {q s fr b : Int} {v : Value} (h : PathAt w B q s fr b v) (hb : Below N w w') (hB : B < N) : PathAt w' B q s fr b v := ⟨(hb.block B hB).trans h.it⟩
theorem PathAt.set {w : World} {B : Nat} {q s fr b : Int} {v : Value} (h : PathAt w B q s fr b v) {p : Addr} (hp : B ≠ p.block) (u : Value) : PathAt (w.setCell p u) B q s fr b v := ⟨(heap_setCell_other w p B u hp).trans h.it⟩
theorem PathAt.cells {w : World} {B : Nat} {q s fr b : Int} {v : Value} (h : PathAt w B q s fr b v) : (w.cell? ⟨B, 0, none⟩ = some (.int .i64 q) ∧ w.cell? ⟨B, 1, none⟩ = some (.int .i64 s) ∧ w.cell? ⟨B, 2, none⟩ = some v ∧ w.cell? ⟨B, 3, none⟩ = some (.int .i64 fr) ∧ w.cell? ⟨B, 4, none⟩ = some (.int .i64 b)) ∧ ∀ j, w.frozen? ⟨B, j, none⟩ = false := by
  have := h.it
  refine ⟨⟨?_, ?_, ?_, ?_, ?_⟩, fun j => ?_⟩ <;> simp [World.cell?, World.frozen?, this]

/-- The cells of a result that is a path, not yet written. -/
structure ResP (w : World) (B : Nat) : Prop where
  lt : B < w.heap.size
  it : w.heap[B]? = some (.cells #[.int .i64 0, .int .i64 0, .slice none 0 0, .int .i64 0, .int .i64 0] 31 (0, 0))
theorem ResP.new (w : World) : ResP (w.alloc (.cells #[.int .i64 0, .int .i64 0, .slice none 0 0, .int .i64 0, .int .i64 0] 31)) w.heap.size := ⟨by simp, heap_alloc_new w _⟩
theorem ResP.keep {w w' : World} {B N : Nat} (h : ResP w B) (hb : Below N w w') (hB : B < N) : ResP w' B := ⟨Nat.lt_of_lt_of_le h.lt hb.size, (hb.block B hB).trans h.it⟩
theorem ResP.set {w : World} {B : Nat} (h : ResP w B) {p : Addr} (hp : B ≠ p.block) (u : Value) : ResP (w.setCell p u) B := ⟨by simpa [World.setCell] using h.lt, (heap_setCell_other w p B u hp).trans h.it⟩
theorem ResP.cells {w : World} {B : Nat} (h : ResP w B) : (w.cell? ⟨B, 0, none⟩ = some (.int .i64 0) ∧ w.cell? ⟨B, 1, none⟩ = some (.int .i64 0) ∧ w.cell? ⟨B, 2, none⟩ = some (.slice none 0 0) ∧ w.cell? ⟨B, 3, none⟩ = some (.int .i64 0) ∧ w.cell? ⟨B, 4, none⟩ = some (.int .i64 0)) ∧ ∀ j, w.frozen? ⟨B, j, none⟩ = false := by
  have := h.it
  refine ⟨⟨?_, ?_, ?_, ?_, ?_⟩, fun j => ?_⟩ <;> simp [World.cell?, World.frozen?, this]

theorem PathAt.grown {w w' : World} {P : Nat} {q s fr b : Int} {v : Value} {row : Option Nat} (h : PathAt w P q s fr b v) (hg : w.grownBy w' row) (hne : row ≠ some P) : PathAt w' P q s fr b v := ⟨(hg.block P h.lt (fun e => hne e.symm)).trans h.it⟩
theorem owns_grown {w w' : World} {base e size n : Nat} {v : Value} {xs : List Value} {row : Option Nat} (h : w.ownsRow base e size v n xs) (hg : w.grownBy w' row) (hr : ∀ k, row = some k → k < base) : w'.ownsRow base e size v n xs :=
  ⟨h.1, h.2.imp id fun ⟨g, cap, cur, h1, h2, h3, h4⟩ => ⟨g, cap, cur, h1, h2, (hg.block g (lt_of_block h3) (fun e => by have := hr g e.symm; omega)).trans h3, h4⟩⟩

theorem stepCells_put : ∀ (l : List Stp) (i j : Nat) (t t' : Stp) (u : Value), l[i]? = some t → j < 7 → t'.cells = t.cells.set j u → (stepCells l).set (i * 7 + j) u = stepCells (l.set i t')
  | [], i, _, _, _, _, h, _, _ => by simp at h
  | y :: ys, 0, j, t, t', u, h, hj, he => by
    simp at h
    subst h
    rw [List.set_cons_zero, stepCells_cons, stepCells_cons, he, Nat.zero_mul, Nat.zero_add, List.set_append_left _ _ (by simp; omega)]
  | y :: ys, i + 1, j, t, t', u, h, hj, he => by
    have ih := stepCells_put ys i j t t' u (by simpa using h) hj he
    rw [List.set_cons_succ, stepCells_cons, stepCells_cons, ← ih, List.set_append_right _ _ (by simp; omega)]
    congr 2
    simp
    omega

/-- A row is not a path's block. -/
theorem row_not_path {w : World} {base n X : Nat} {v : Value} {xs : List Value} {q s fr b : Int} {u : Value} (ho : w.ownsRow base 43 7 v n xs) (hp : PathAt w X q s fr b u) : ∀ k, v.ownBlock = some k → k ≠ X := by
  intro k hk e
  subst e
  rcases ho.2 with ⟨rfl, _⟩ | ⟨g, cap, cur, rfl, _, hh, _⟩
  · simp [Value.ownBlock] at hk
  · simp [Value.ownBlock] at hk
    subst hk
    rw [hp.it] at hh
    have := congrArg (fun o => match o with | some (Obj.cells _ t _) => t | _ => 0) hh
    simp at this
end Go.Proofs.Ytedmnlognekdkaa

namespace Go.Proofs.Ytedmnlognekdkaa
open Go.RowKit

/-- The marks of one step. -/
def markStp (K : Int) : Stp := { x := K, y := K + 1, lo := K + 1 + 1, hi := K + 1 + 1 + 1, fr := K + 1 + 1 + 1 + 1, by_ := K + 1 + 1 + 1 + 1 + 1, ho := (K + 1 + 1 + 1 + 1 + 1 + 1) % 3 == 0 }
def markL (k0 : Int) (n : Nat) : List Stp := (List.range n).map fun i => markStp (k0 + ((i * 7 : Nat) : Int))
def markSTo (k0 : Int) (l : List Stp) (k : Nat) : List Stp := markL k0 k ++ l.drop k
theorem markL_length (k0 : Int) (n : Nat) : (markL k0 n).length = n := by simp [markL]
theorem markL_get (k0 : Int) {n i : Nat} (h : i < n) : (markL k0 n)[i]? = some (markStp (k0 + ((i * 7 : Nat) : Int))) := by simp [markL, h]
theorem markSTo_zero (k0 : Int) (l : List Stp) : markSTo k0 l 0 = l := by simp [markSTo, markL]
theorem markSTo_all (k0 : Int) (l : List Stp) : markSTo k0 l l.length = markL k0 l.length := by simp [markSTo]
theorem markSTo_length (k0 : Int) (l : List Stp) {k : Nat} (h : k ≤ l.length) : (markSTo k0 l k).length = l.length := by simp [markSTo, markL_length]; omega
theorem markSTo_now (k0 : Int) {l : List Stp} {k : Nat} {t : Stp} (h : l[k]? = some t) : (markSTo k0 l k)[k]? = some t := by
  unfold markSTo
  rw [List.getElem?_append_right (by rw [markL_length]; exact Nat.le_refl _), markL_length, List.getElem?_drop, Nat.sub_self, Nat.add_zero]
  exact h
theorem markSTo_succ (k0 : Int) {l : List Stp} {k : Nat} (h : k < l.length) : markSTo k0 l (k + 1) = (markSTo k0 l k).set k (markStp (k0 + ((k * 7 : Nat) : Int))) := by
  apply List.ext_getElem?
  intro i
  by_cases e : i = k
  · subst e
    rw [List.getElem?_set_self (by rw [markSTo_length k0 l (Nat.le_of_lt h)]; exact h)]
    unfold markSTo
    rw [List.getElem?_append_left (by rw [markL_length]; omega), markL_get k0 (by omega)]
  · rw [List.getElem?_set_ne (Ne.symm e)]
    unfold markSTo
    by_cases c : i < k
    · rw [List.getElem?_append_left (by rw [markL_length]; omega), List.getElem?_append_left (by rw [markL_length]; exact c), markL_get k0 (by omega), markL_get k0 c]
    · rw [List.getElem?_append_right (by rw [markL_length]; omega), List.getElem?_append_right (by rw [markL_length]; omega), markL_length, markL_length, List.getElem?_drop, List.getElem?_drop]
      congr 1
      omega

/-- One number of one step is written. -/
theorem row_put {w : World} {base g cap n : Nat} {l : List Stp} (h : w.ownsRow base 43 7 (.slice (some ⟨g, 0, none⟩) n cap) n (stepCells l)) {i j : Nat} {t t' : Stp} {u : Value} (ht : l[i]? = some t) (hj : j < 7) (he : t'.cells = t.cells.set j u) :
    (w.setCell ⟨g, i * 7 + j, none⟩ u).ownsRow base 43 7 (.slice (some ⟨g, 0, none⟩) n cap) n (stepCells (l.set i t')) := by
  have hi : i < l.length := (List.getElem?_eq_some_iff.1 ht).1
  have hn : l.length * 7 = n * 7 := by rw [← stepCells_length]; exact h.1
  rw [← stepCells_put l i j t t' u ht hj he]
  exact owns_put h (by omega) u
theorem row_put_set {w : World} {base g cap n : Nat} {l : List Stp} {i j : Nat} {t t' : Stp} {u : Value} (h : w.ownsRow base 43 7 (.slice (some ⟨g, 0, none⟩) n cap) n (stepCells (l.set i t))) (hi : i < l.length) (hj : j < 7) (he : t'.cells = t.cells.set j u) :
    (w.setCell ⟨g, i * 7 + j, none⟩ u).ownsRow base 43 7 (.slice (some ⟨g, 0, none⟩) n cap) n (stepCells (l.set i t')) := by
  have h1 := row_put h (j := j) (t := t) (t' := t') (u := u) (by rw [List.getElem?_set_self hi]) hj he
  rw [List.set_set] at h1
  exact h1
/-- All of one step is written. -/
theorem row_put7 {w : World} {base g cap n : Nat} {l : List Stp} (h : w.ownsRow base 43 7 (.slice (some ⟨g, 0, none⟩) n cap) n (stepCells l)) {i : Nat} {t : Stp} (ht : l[i]? = some t) (x y lo hi fr by_ : Int) (ho : Bool) :
    (((((((w.setCell ⟨g, i * 7, none⟩ (.int .i64 x)).setCell ⟨g, i * 7 + 1, none⟩ (.int .i64 y)).setCell ⟨g, i * 7 + 2, none⟩ (.int .i64 lo)).setCell ⟨g, i * 7 + 3, none⟩ (.int .i64 hi)).setCell ⟨g, i * 7 + 4, none⟩ (.int .i64 fr)).setCell ⟨g, i * 7 + 5, none⟩ (.int .i64 by_)).setCell ⟨g, i * 7 + 6, none⟩ (.bool ho)).ownsRow base 43 7 (.slice (some ⟨g, 0, none⟩) n cap) n (stepCells (l.set i { x := x, y := y, lo := lo, hi := hi, fr := fr, by_ := by_, ho := ho })) := by
  have hil : i < l.length := (List.getElem?_eq_some_iff.1 ht).1
  obtain ⟨a0, a1, a2, a3, a4, a5, a6⟩ := t
  have h0 := row_put h (j := 0) (t' := ⟨x, a1, a2, a3, a4, a5, a6⟩) (u := .int .i64 x) ht (by decide) rfl
  have h1 := row_put_set (t := ⟨x, a1, a2, a3, a4, a5, a6⟩) (t' := ⟨x, y, a2, a3, a4, a5, a6⟩) (j := 1) (u := .int .i64 y) h0 hil (by decide) rfl
  have h2 := row_put_set (t := ⟨x, y, a2, a3, a4, a5, a6⟩) (t' := ⟨x, y, lo, a3, a4, a5, a6⟩) (j := 2) (u := .int .i64 lo) h1 hil (by decide) rfl
  have h3 := row_put_set (t := ⟨x, y, lo, a3, a4, a5, a6⟩) (t' := ⟨x, y, lo, hi, a4, a5, a6⟩) (j := 3) (u := .int .i64 hi) h2 hil (by decide) rfl
  have h4 := row_put_set (t := ⟨x, y, lo, hi, a4, a5, a6⟩) (t' := ⟨x, y, lo, hi, fr, a5, a6⟩) (j := 4) (u := .int .i64 fr) h3 hil (by decide) rfl
  have h5 := row_put_set (t := ⟨x, y, lo, hi, fr, a5, a6⟩) (t' := ⟨x, y, lo, hi, fr, by_, a6⟩) (j := 5) (u := .int .i64 by_) h4 hil (by decide) rfl
  exact row_put_set (t := ⟨x, y, lo, hi, fr, by_, a6⟩) (t' := ⟨x, y, lo, hi, fr, by_, ho⟩) (j := 6) (u := .bool ho) h5 hil (by decide) rfl

theorem markSteps_nil (k0 : Int) (w : World) : Calls Try.prog 21 #[.slice none 0 0, .int .i64 k0] w fun e w' => e = .returned (.int .i64 k0) ∧ w' = w := by
  go_enter Try.func21, Try.ntmps21
  go_wp2
  go_loopw [1, 5] (fun v u wr => v = .int .i64 k0 ∧ u = .int .i64 0 ∧ wr = w) (fun _ _ _ => 0)
  case atStart => exact ⟨rfl, rfl, rfl⟩
  case round =>
    obtain ⟨rfl, rfl, rfl⟩ := hrel
    go_wp2
    go_ret
    exact ⟨rfl, rfl⟩

theorem heldSteps_nil (k0 : Int) (w : World) : Calls Try.prog 22 #[.slice none 0 0, .int .i64 k0] w fun e w' => e = .returned (.int .i64 k0) ∧ w' = w := by
  go_enter Try.func22, Try.ntmps22
  go_wp2
  go_loopw [1, 5] (fun v u wr => v = .int .i64 k0 ∧ u = .int .i64 0 ∧ wr = w) (fun _ _ _ => 0)
  case atStart => exact ⟨rfl, rfl, rfl⟩
  case round =>
    obtain ⟨rfl, rfl, rfl⟩ := hrel
    go_wp2
    go_ret
    exact ⟨rfl, rfl⟩

set_option maxHeartbeats 4000000 in
set_option maxRecDepth 20000 in
theorem markSteps_row (k0 : Int) (g cap base : Nat) (l : List Stp) (w : World) (hn : l.length ≤ 1048576) (hk : 0 ≤ k0 ∧ k0 ≤ 1000) (h : w.ownsRow base 43 7 (.slice (some ⟨g, 0, none⟩) l.length cap) l.length (stepCells l)) :
    Calls Try.prog 21 #[.slice (some ⟨g, 0, none⟩) l.length cap, .int .i64 k0] w
      fun e w' => e = .returned (.int .i64 (k0 + ((l.length * 7 : Nat) : Int))) ∧ w'.ownsRow base 43 7 (.slice (some ⟨g, 0, none⟩) l.length cap) l.length (stepCells (markL k0 l.length)) ∧ w.grownBy w' (some g) := by
  obtain ⟨k1, k2⟩ := hk
  go_enter Try.func21, Try.ntmps21
  go_wp2
  go_loopw [1, 5] (fun v u wr => ∃ i : Nat, i ≤ l.length ∧ u = .int .i64 i ∧ v = .int .i64 (k0 + ((i * 7 : Nat) : Int)) ∧ wr.ownsRow base 43 7 (.slice (some ⟨g, 0, none⟩) l.length cap) l.length (stepCells (markSTo k0 l i)) ∧ w.grownBy wr (some g)) (fun _ u _ => l.length - (intOf u).toNat)
  case atStart => exact ⟨0, Nat.zero_le _, rfl, by simp, by rw [markSTo_zero]; exact h, ⟨rfl, rfl, rfl, Nat.le_refl _, fun _ _ _ => rfl⟩⟩
  case round =>
    clear h
    obtain ⟨i, hi, rfl, rfl, ho, hg⟩ := hrel
    by_cases hlt : i < l.length
    · obtain ⟨t, ht⟩ : ∃ t, l[i]? = some t := ⟨_, List.getElem?_eq_getElem hlt⟩
      have hnow := markSTo_now k0 ht
      have c0 := (ho.cellAt (i * 7) (by omega)).trans (stepCells_at _ i t 0 hnow (by decide))
      have c1 := (ho.cellAt (i * 7 + 1) (by omega)).trans (stepCells_at _ i t 1 hnow (by decide))
      have c2 := (ho.cellAt (i * 7 + 2) (by omega)).trans (stepCells_at _ i t 2 hnow (by decide))
      have c3 := (ho.cellAt (i * 7 + 3) (by omega)).trans (stepCells_at _ i t 3 hnow (by decide))
      have c4 := (ho.cellAt (i * 7 + 4) (by omega)).trans (stepCells_at _ i t 4 hnow (by decide))
      have c5 := (ho.cellAt (i * 7 + 5) (by omega)).trans (stepCells_at _ i t 5 hnow (by decide))
      have c6 := (ho.cellAt (i * 7 + 6) (by omega)).trans (stepCells_at _ i t 6 hnow (by decide))
      have cf := ho.frozenAt
      have i0 : (0 : Int) ≤ (i : Int) := by omega
      have i1 : (i : Int) < (l.length : Int) := by omega
      have HO : Hid (wr.ownsRow base 43 7 (.slice (some ⟨g, 0, none⟩) l.length cap) l.length (stepCells (markSTo k0 l i))) := ho
      have HG : Hid (w.grownBy wr (some g)) := hg
      have HN : Hid ((markSTo k0 l i)[i]? = some t) := hnow
      have HT : Hid (l[i]? = some t) := ht
      clear ho hg hnow ht
      generalize hK : k0 + ((i * 7 : Nat) : Int) = K
      have b1 : 0 ≤ K ∧ K ≤ 10000000 := by omega
      obtain ⟨b2, b3⟩ := b1
      have EK : Hid (k0 + ((i * 7 : Nat) : Int) = K) := hK
      clear hK
      go_wp2
      go_roundw
      case rel =>
        have hK := EK.out
        refine ⟨i + 1, by omega, by go_num, by congr 1; omega, ?_, ?_⟩
        · have h7 := row_put7 HO.out HN.out K (K + 1) (K + 1 + 1) (K + 1 + 1 + 1) (K + 1 + 1 + 1 + 1) (K + 1 + 1 + 1 + 1 + 1) ((K + 1 + 1 + 1 + 1 + 1 + 1) % 3 == 0)
          rw [markSTo_succ k0 hlt, hK]
          exact h7
        · exact grown_over2 HG.out (grown_over2 (grown_over2 (grown_over2 (grown_over2 (grown_over2 (grown_over2 (grown_set wr ⟨g, i * 7, none⟩ _) (grown_set _ ⟨g, i * 7 + 1, none⟩ _)) (grown_set _ ⟨g, i * 7 + 2, none⟩ _)) (grown_set _ ⟨g, i * 7 + 3, none⟩ _)) (grown_set _ ⟨g, i * 7 + 4, none⟩ _)) (grown_set _ ⟨g, i * 7 + 5, none⟩ _)) (grown_set _ ⟨g, i * 7 + 6, none⟩ _))
      case measure => simp [intOf]; omega
    · obtain rfl : i = l.length := by omega
      go_wp2
      go_ret
      exact ⟨rfl, by rw [← markSTo_all]; exact ho, hg⟩

set_option maxHeartbeats 4000000 in
set_option maxRecDepth 20000 in
theorem heldSteps_row (k0 : Int) (g cap base n : Nat) (w : World) (hn : n ≤ 1048576) (hk : 0 ≤ k0 ∧ k0 ≤ 1000) (h : w.ownsRow base 43 7 (.slice (some ⟨g, 0, none⟩) n cap) n (stepCells (markL k0 n))) :
    Calls Try.prog 22 #[.slice (some ⟨g, 0, none⟩) n cap, .int .i64 k0] w fun e w' => e = .returned (.int .i64 (k0 + ((n * 7 : Nat) : Int))) ∧ w' = w := by
  obtain ⟨k1, k2⟩ := hk
  go_enter Try.func22, Try.ntmps22
  go_wp2
  go_loopw [1, 5] (fun v u wr => ∃ i : Nat, i ≤ n ∧ u = .int .i64 i ∧ v = .int .i64 (k0 + ((i * 7 : Nat) : Int)) ∧ wr = w) (fun _ u _ => n - (intOf u).toNat)
  case atStart => exact ⟨0, Nat.zero_le _, rfl, by simp, rfl⟩
  case round =>
    obtain ⟨i, hi, rfl, rfl, rfl⟩ := hrel
    by_cases hlt : i < n
    · have hnow := markL_get k0 hlt
      generalize hK : k0 + ((i * 7 : Nat) : Int) = K at hnow ⊢
      have c0 : wr.cell? ⟨g, i * 7, none⟩ = some (.int .i64 K) := (h.cellAt (i * 7) (by omega)).trans (stepCells_at _ i _ 0 hnow (by decide))
      have c1 : wr.cell? ⟨g, i * 7 + 1, none⟩ = some (.int .i64 (K + 1)) := (h.cellAt (i * 7 + 1) (by omega)).trans (stepCells_at _ i _ 1 hnow (by decide))
      have c2 : wr.cell? ⟨g, i * 7 + 2, none⟩ = some (.int .i64 (K + 1 + 1)) := (h.cellAt (i * 7 + 2) (by omega)).trans (stepCells_at _ i _ 2 hnow (by decide))
      have c3 : wr.cell? ⟨g, i * 7 + 3, none⟩ = some (.int .i64 (K + 1 + 1 + 1)) := (h.cellAt (i * 7 + 3) (by omega)).trans (stepCells_at _ i _ 3 hnow (by decide))
      have c4 : wr.cell? ⟨g, i * 7 + 4, none⟩ = some (.int .i64 (K + 1 + 1 + 1 + 1)) := (h.cellAt (i * 7 + 4) (by omega)).trans (stepCells_at _ i _ 4 hnow (by decide))
      have c5 : wr.cell? ⟨g, i * 7 + 5, none⟩ = some (.int .i64 (K + 1 + 1 + 1 + 1 + 1)) := (h.cellAt (i * 7 + 5) (by omega)).trans (stepCells_at _ i _ 5 hnow (by decide))
      have c6 : wr.cell? ⟨g, i * 7 + 6, none⟩ = some (.bool ((K + 1 + 1 + 1 + 1 + 1 + 1) % 3 == 0)) := (h.cellAt (i * 7 + 6) (by omega)).trans (stepCells_at _ i _ 6 hnow (by decide))
      have i0 : (0 : Int) ≤ (i : Int) := by omega
      have i1 : (i : Int) < (n : Int) := by omega
      have b1 : 0 ≤ K ∧ K ≤ 10000000 := by omega
      obtain ⟨b2, b3⟩ := b1
      have EK : Hid (k0 + ((i * 7 : Nat) : Int) = K) := hK
      clear hK hnow
      go_wp2
      go_roundw
      case rel =>
        have hK := EK.out
        exact ⟨i + 1, by omega, by go_num, by congr 1; omega, by simp⟩
      case measure => simp [intOf]; omega
    · obtain rfl : i = n := by omega
      go_wp2
      go_ret
      exact ⟨rfl, rfl⟩

/-- Steps that a call owns, as the walk meets them. -/
theorem steps_of {w : World} {base : Nat} {v : Value} {l : List Stp} (h : w.ownsRow base 43 7 v l.length (stepCells l)) : ∃ a b cap, v = .slice a l.length cap ∧ StepsAt w a b 0 l := by
  rcases h.2 with ⟨rfl, h0⟩ | ⟨g, cap, cur, rfl, _⟩
  · have : l = [] := List.eq_nil_of_length_eq_zero h0
    subst this
    exact ⟨none, 0, 0, rfl, ⟨fun h => absurd rfl h, fun h => absurd rfl h, fun i t hi => by simp at hi⟩⟩
  · exact ⟨some ⟨g, 0, none⟩, g, cap, rfl, steps_owned h⟩

theorem markPath_own (q s fr b k0 : Int) (v : Value) (base : Nat) (l : List Stp) (w : World) (hn : l.length ≤ 1048576) (hk : 0 ≤ k0 ∧ k0 ≤ 1000) (h : w.ownsRow base 43 7 v l.length (stepCells l)) :
    Calls Try.prog 9 #[.agg #[.int .i64 q, .int .i64 s, v, .int .i64 fr, .int .i64 b], .int .i64 k0] w
      fun e w' => e = .returned (.int .i64 (k0 + ((l.length * 7 : Nat) : Int))) ∧ w'.ownsRow base 43 7 v l.length (stepCells (markL k0 l.length)) ∧ w.grownBy w' v.ownBlock := by
  have hal := World.grownBy_alloc w (.cells #[.int .i64 q, .int .i64 s, v, .int .i64 fr, .int .i64 b] 31) v.ownBlock
  have ho := owns_below h ((Below.refl _ _).alloc (Nat.le_refl _) (.cells #[.int .i64 q, .int .i64 s, v, .int .i64 fr, .int .i64 b] 31))
  go_enter Try.func9, Try.ntmps9
  rcases h.2 with ⟨rfl, h0⟩ | ⟨g, cap, cur, rfl, _⟩
  · have : l = [] := List.eq_nil_of_length_eq_zero h0
    subst this
    go_wp2_with fail
    refine (markSteps_nil _ _).mono ?_
    rintro e w1 ⟨rfl, rfl⟩
    go_wp2
    go_ret
    exact ⟨by simp, World.ownsRow_nil _ _ _ _, hal⟩
  · go_wp2_with fail
    refine (markSteps_row _ g cap base l _ hn hk ho).mono ?_
    rintro e w1 ⟨rfl, ho1, hg1⟩
    go_wp2
    go_ret
    exact ⟨rfl, ho1, grown_over2 hal hg1⟩

theorem heldPath_own (q s fr b k0 : Int) (v : Value) (base n : Nat) (w : World) (hn : n ≤ 1048576) (hk : 0 ≤ k0 ∧ k0 ≤ 1000) (h : w.ownsRow base 43 7 v n (stepCells (markL k0 n))) :
    Calls Try.prog 10 #[.agg #[.int .i64 q, .int .i64 s, v, .int .i64 fr, .int .i64 b], .int .i64 k0] w
      fun e w' => e = .returned (.int .i64 (k0 + ((n * 7 : Nat) : Int))) ∧ Below w.heap.size w w' := by
  have ho := owns_below h ((Below.refl _ _).alloc (Nat.le_refl _) (.cells #[.int .i64 q, .int .i64 s, v, .int .i64 fr, .int .i64 b] 31))
  have hneg : ¬ (k0 + ((n * 7 : Nat) : Int) < 0) := by omega
  go_enter Try.func10, Try.ntmps10
  rcases h.2 with ⟨rfl, rfl⟩ | ⟨g, cap, cur, rfl, _⟩
  · have hk0 : ¬ (k0 < 0) := by omega
    go_wp2_with fail
    refine (heldSteps_nil _ _).mono ?_
    rintro e w1 ⟨rfl, rfl⟩
    go_wp2
    go_ret
    exact ⟨by simp, (Below.refl _ _).alloc (Nat.le_refl _) _⟩
  · generalize hM : k0 + ((n * 7 : Nat) : Int) = M at hneg ⊢
    go_wp2_with fail
    refine (heldSteps_row _ g cap base n _ hn hk ho).mono ?_
    rw [hM]
    rintro e w1 ⟨rfl, rfl⟩
    go_wp2
    go_ret
    exact ⟨rfl, (Below.refl _ _).alloc (Nat.le_refl _) _⟩
end Go.Proofs.Ytedmnlognekdkaa

namespace Go.Proofs.Ytedmnlognekdkaa
open Go.RowKit

/-- A path, and true; or nothing, and false. -/
structure Ans where
  q : Int
  s : Int
  fr : Int
  b : Int
  l : List Stp
  ok : Bool
def Ans.no : Ans := { q := 0, s := 0, fr := 0, b := 0, l := [], ok := false }
/-- What is answered: in memory of the call's own. -/
def Gives (A : Ans) (w : World) (e : Ending) (w' : World) : Prop :=
  ∃ v, e = .returned (.tuple #[.agg #[.int .i64 A.q, .int .i64 A.s, v, .int .i64 A.fr, .int .i64 A.b], .bool A.ok]) ∧ w'.ownsRow w.heap.size 43 7 v A.l.length (stepCells A.l) ∧ Below w.heap.size w w'
theorem Gives.none {w w' : World} {e : Ending} (he : e = .returned (.tuple #[.agg #[.int .i64 0, .int .i64 0, .slice none 0 0, .int .i64 0, .int .i64 0], .bool false])) (hb : Below w.heap.size w w') : Gives .no w e w' :=
  ⟨_, he, World.ownsRow_nil _ _ _ _, hb⟩
end Go.Proofs.Ytedmnlognekdkaa

namespace Go.Proofs.Ytedmnlognekdkaa
open Go.RowKit

theorem eqKind_same (q s : Int) (w : World) :
    Calls Try.prog 19 #[.agg #[.int .i64 q, .int .i64 s], .agg #[.int .i64 q, .int .i64 s]] w fun e w' => e = .returned (.bool true) ∧ Below w.heap.size w w' := by
  go_enter Try.func19, Try.ntmps19
  go_wp2
  go_ret
  exact ⟨rfl, ((Below.refl _ _).alloc (Nat.le_refl _) _).alloc (by simp) _⟩

theorem eqStep_same (x y lo hi fr b : Int) (ho : Bool) (w : World) :
    Calls Try.prog 33 #[.agg #[.int .i64 x, .int .i64 y, .int .i64 lo, .int .i64 hi, .int .i64 fr, .int .i64 b, .bool ho], .agg #[.int .i64 x, .int .i64 y, .int .i64 lo, .int .i64 hi, .int .i64 fr, .int .i64 b, .bool ho]] w
      fun e w' => e = .returned (.bool true) ∧ Below w.heap.size w w' := by
  go_enter Try.func33, Try.ntmps33
  go_wp2
  go_ret
  exact ⟨rfl, ((Below.refl _ _).alloc (Nat.le_refl _) _).alloc (by simp) _⟩

set_option maxHeartbeats 1000000 in
theorem eqSteps_same (a a' : Option Addr) (b o cap b' o' cap' : Nat) (l : List Stp) (w : World) (hl : l.length ≤ 1048576) (hs : StepsAt w a b o l) (hs' : StepsAt w a' b' o' l) :
    Calls Try.prog 20 #[.slice a l.length cap, .slice a' l.length cap'] w fun e w' => e = .returned (.bool true) ∧ Below w.heap.size w w' := by
  go_enter Try.func20, Try.ntmps20
  go_wp2
  go_loopw [5] (fun v wr => ∃ k : Nat, k ≤ l.length ∧ v = .int .i64 k ∧ Below w.heap.size w wr) (fun v _ => l.length - (intOf v).toNat)
  case atStart => exact ⟨0, Nat.zero_le _, rfl, Below.refl _ _⟩
  case round =>
    obtain ⟨k, hk, rfl, hb⟩ := hrel
    by_cases hlt : k < l.length
    · obtain ⟨s, hsk⟩ : ∃ s, l[k]? = some s := ⟨l[k], List.getElem?_eq_getElem hlt⟩
      have hne : l ≠ [] := by intro e; subst e; simp at hlt
      obtain rfl := hs.here hne
      obtain rfl := hs'.here hne
      have hbw := hs.lt hne
      have hbw' := hs'.lt hne
      obtain ⟨c0, c1, c2, c3, c4, c5, c6⟩ := (hs.below hb (fun _ => hbw)).seven hsk
      obtain ⟨d0, d1, d2, d3, d4, d5, d6⟩ := (hs'.below hb (fun _ => hbw')).seven hsk
      have k0 : (0 : Int) ≤ (k : Int) := by omega
      have k1 : (k : Int) < (l.length : Int) := by omega
      have hbx : b < wr.heap.size := Nat.lt_of_lt_of_le hbw hb.size
      have hbx' : b' < wr.heap.size := Nat.lt_of_lt_of_le hbw' hb.size
      have HS : Hid (l[k]? = some s) := hsk
      clear hsk
      go_wp2
      go_region_held3 (fun w' => w'.cell? ⟨b, o + k * 7, none⟩ = some (.int .i64 s.x) ∧ w'.cell? ⟨b, o + k * 7 + 1, none⟩ = some (.int .i64 s.y) ∧ w'.cell? ⟨b, o + k * 7 + 2, none⟩ = some (.int .i64 s.lo) ∧ w'.cell? ⟨b, o + k * 7 + 3, none⟩ = some (.int .i64 s.hi) ∧ w'.cell? ⟨b, o + k * 7 + 4, none⟩ = some (.int .i64 s.fr) ∧ w'.cell? ⟨b, o + k * 7 + 5, none⟩ = some (.int .i64 s.by_) ∧ w'.cell? ⟨b, o + k * 7 + 6, none⟩ = some (.bool s.ho) ∧
        w'.cell? ⟨b', o' + k * 7, none⟩ = some (.int .i64 s.x) ∧ w'.cell? ⟨b', o' + k * 7 + 1, none⟩ = some (.int .i64 s.y) ∧ w'.cell? ⟨b', o' + k * 7 + 2, none⟩ = some (.int .i64 s.lo) ∧ w'.cell? ⟨b', o' + k * 7 + 3, none⟩ = some (.int .i64 s.hi) ∧ w'.cell? ⟨b', o' + k * 7 + 4, none⟩ = some (.int .i64 s.fr) ∧ w'.cell? ⟨b', o' + k * 7 + 5, none⟩ = some (.int .i64 s.by_) ∧ w'.cell? ⟨b', o' + k * 7 + 6, none⟩ = some (.bool s.ho))
        (simp [go_sem, *])
        (first | (go_at_call 33; refine (eqStep_same _ _ _ _ _ _ _ _).mono ?_; rintro e w1 ⟨rfl, hb1⟩; have hc1 : ∀ j, w1.cell? ⟨b, j, none⟩ = wr.cell? ⟨b, j, none⟩ := fun j => hb1.cell (p := ⟨b, j, none⟩) hbx; have hc2 : ∀ j, w1.cell? ⟨b', j, none⟩ = wr.cell? ⟨b', j, none⟩ := fun j => hb1.cell (p := ⟨b', j, none⟩) hbx'))
      go_wp2
      go_roundw
      case rel => exact ⟨k + 1, by omega, by go_num, hb.drew.trans (hb1.mono hb.size)⟩
      case measure => simp [intOf]; omega
    · go_wp2
      go_ret
      exact ⟨rfl, hb⟩

set_option maxHeartbeats 1000000 in
theorem eqPath_same (q s fr b : Int) (a a' : Option Addr) (b0 o cap b0' o' cap' : Nat) (l : List Stp) (w : World) (hl : l.length ≤ 1048576) (hs : StepsAt w a b0 o l) (hs' : StepsAt w a' b0' o' l) :
    Calls Try.prog 8 #[.agg #[.int .i64 q, .int .i64 s, .slice a l.length cap, .int .i64 fr, .int .i64 b], .agg #[.int .i64 q, .int .i64 s, .slice a' l.length cap', .int .i64 fr, .int .i64 b]] w
      fun e w' => e = .returned (.bool true) ∧ Below w.heap.size w w' := by
  go_enter Try.func8, Try.ntmps8
  go_wp2_with fail
  refine (eqKind_same _ _ _).mono ?_
  rintro e w1 ⟨rfl, hb1⟩
  obtain ⟨hc1, _⟩ := old_cells hb1
  have hz1 := hb1.size
  simp at hz1
  have hb01 : Below w.heap.size w w1 := (((Below.refl w.heap.size w).alloc (Nat.le_refl _) _).alloc (by simp) _).trans (hb1.mono (by simp; omega))
  have hC1 : ∀ b o, b < w.heap.size + 2 → w1.cell? ⟨b, o, none⟩ = _ := fun b o h => hc1 b o (by simp; omega)
  have a2 : w1.cell? ⟨w.heap.size, 2, none⟩ = some (.slice a l.length cap) := by rw [hC1 _ _ (by omega)]; simp [go_sem]
  have a3 : w1.cell? ⟨w.heap.size, 3, none⟩ = some (.int .i64 fr) := by rw [hC1 _ _ (by omega)]; simp [go_sem]
  have a4 : w1.cell? ⟨w.heap.size, 4, none⟩ = some (.int .i64 b) := by rw [hC1 _ _ (by omega)]; simp [go_sem]
  have d2 : w1.cell? ⟨w.heap.size + 1, 2, none⟩ = some (.slice a' l.length cap') := by rw [hC1 _ _ (by omega)]; simp [go_sem]
  have d3 : w1.cell? ⟨w.heap.size + 1, 3, none⟩ = some (.int .i64 fr) := by rw [hC1 _ _ (by omega)]; simp [go_sem]
  have d4 : w1.cell? ⟨w.heap.size + 1, 4, none⟩ = some (.int .i64 b) := by rw [hC1 _ _ (by omega)]; simp [go_sem]
  clear hc1 hC1
  go_wp2_with fail
  refine (eqSteps_same _ _ b0 o _ b0' o' _ _ _ hl (hs.below hb01 hs.lt) (hs'.below hb01 hs'.lt)).mono ?_
  rintro e w2 ⟨rfl, hb2⟩
  have z : w.heap.size + 1 < w1.heap.size := by omega
  have e3 : w2.cell? ⟨w.heap.size, 3, none⟩ = some (.int .i64 fr) := (hb2.cell (p := ⟨w.heap.size, 3, none⟩) (by show w.heap.size < _; omega)).trans a3
  have e4 : w2.cell? ⟨w.heap.size, 4, none⟩ = some (.int .i64 b) := (hb2.cell (p := ⟨w.heap.size, 4, none⟩) (by show w.heap.size < _; omega)).trans a4
  have g3 : w2.cell? ⟨w.heap.size + 1, 3, none⟩ = some (.int .i64 fr) := (hb2.cell (p := ⟨w.heap.size + 1, 3, none⟩) z).trans d3
  have g4 : w2.cell? ⟨w.heap.size + 1, 4, none⟩ = some (.int .i64 b) := (hb2.cell (p := ⟨w.heap.size + 1, 4, none⟩) z).trans d4
  go_wp2
  go_ret
  exact ⟨rfl, hb01.trans (hb2.mono (by omega))⟩
end Go.Proofs.Ytedmnlognekdkaa
