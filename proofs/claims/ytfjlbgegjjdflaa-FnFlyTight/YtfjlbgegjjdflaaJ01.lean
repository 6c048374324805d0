/- Joined texts: Data, OwnMore, GrownMore, Move, Rd, AnyEnd, Pick, Data2, LawData, SpanData, SLeaf, Cls, Spec, IntsAt, LawSpec, BoxP. -/
import Derived.WalkKit
import Derived.Deep.MidRow
import Derived.Maps.AppendAt
import Derived.BigQuiet
import Derived.WalkSpells
import Derived.Test.YtfjlbgegjjdflaaRows
namespace Go.Proofs.Ytfjlbgegjjdflaa
open Go.RowKit

/-- A step, as numbers. -/
structure Stp where
  x : Int
  y : Int
  lo : Int
  hi : Int
  fr : Int
  by_ : Int
  ho : Bool

/-- Its cells. -/
abbrev Stp.cells (s : Stp) : List Value := [.int .i64 s.x, .int .i64 s.y, .int .i64 s.lo, .int .i64 s.hi, .int .i64 s.fr, .int .i64 s.by_, .bool s.ho]
/-- It as a value. -/
abbrev Stp.val (s : Stp) : Value := .agg #[.int .i64 s.x, .int .i64 s.y, .int .i64 s.lo, .int .i64 s.hi, .int .i64 s.fr, .int .i64 s.by_, .bool s.ho]
/-- The step of zeros. -/
def Stp.zero : Stp := ⟨0, 0, 0, 0, 0, 0, false⟩

/-- n is between a and b. -/
def inB (n a b : Int) : Bool := decide (a ≤ n) && decide (n ≤ b)
theorem inB_iff (n a b : Int) : inB n a b = true ↔ a ≤ n ∧ n ≤ b := by simp [inB]

/-- Ascending, from the least to the most. -/
def ordB (a b c d : Int) : Bool := decide (a ≤ b ∧ b ≤ c ∧ c ≤ d)
/-- A kind within its bounds. -/
def kindB (q s : Int) : Bool := decide (1 ≤ q ∧ q ≤ s ∧ s ≤ 50)
/-- A step within its bounds. -/
def stepB (x y lo hi fr by_ : Int) : Bool :=
  decide (0 ≤ x ∧ x ≤ 15 ∧ 0 ≤ y ∧ y ≤ 15 ∧ 0 ≤ lo ∧ lo ≤ hi ∧ hi ≤ 6 ∧ 0 ≤ fr ∧ fr ≤ by_ ∧ by_ ≤ 10000)
/-- Of two steps that are within their bounds: the second can stand behind the first. -/
def nextB (x y lo hi x' y' lo' hi' : Int) : Bool :=
  decide (-1 ≤ x - x' ∧ x - x' ≤ 1 ∧ -1 ≤ y - y' ∧ y - y' ≤ 1 ∧ (x ≠ x' ∨ y ≠ y') ∧ lo ≤ hi' ∧ lo' ≤ hi)

/-- A level in common. -/
def levB (lo hi lo' hi' : Int) : Bool := decide (lo ≤ hi') && decide (lo' ≤ hi)
/-- As the program asks it. -/
def folB (x y lo hi x' y' lo' hi' : Int) : Bool := !((x == x') && (y == y')) && inB (wrap64 (x - x')) (-1) 1 && inB (wrap64 (y - y')) (-1) 1 && levB lo hi lo' hi'

def Stp.okB (s : Stp) : Bool := stepB s.x s.y s.lo s.hi s.fr s.by_
def Stp.nextB (s t : Stp) : Bool := Go.Proofs.Ytfjlbgegjjdflaa.nextB s.x s.y s.lo s.hi t.x t.y t.lo t.hi

/-- The cells of a list of steps lie in block b from offset o on, seven each. -/
structure StepsAt (w : World) (a : Option Addr) (b o : Nat) (l : List Stp) : Prop where
  here : l ≠ [] → a = some ⟨b, o, none⟩
  lt : l ≠ [] → b < w.heap.size
  cell : ∀ (i : Nat) (s : Stp), l[i]? = some s → w.rangeAt b (o + i * 7) s.cells

theorem StepsAt.below {w w' : World} {a : Option Addr} {b o B : Nat} {l : List Stp} (h : StepsAt w a b o l) (hb : Below B w w') (hB : l ≠ [] → b < B) : StepsAt w' a b o l where
  here := h.here
  lt hl := Nat.lt_of_lt_of_le (h.lt hl) hb.size
  cell i s hi j v hv := by
    have hne : l ≠ [] := by intro e; subst e; simp at hi
    rw [hb.cell (p := ⟨b, o + i * 7 + j, none⟩) (hB hne)]
    exact h.cell i s hi j v hv

/-- The seven cells of the i-th step, as a walk asks for them. -/
theorem StepsAt.seven {w : World} {a : Option Addr} {b o : Nat} {l : List Stp} (h : StepsAt w a b o l) {i : Nat} {s : Stp} (hi : l[i]? = some s) :
    w.cell? ⟨b, o + i * 7, none⟩ = some (.int .i64 s.x) ∧ w.cell? ⟨b, o + i * 7 + 1, none⟩ = some (.int .i64 s.y) ∧ w.cell? ⟨b, o + i * 7 + 2, none⟩ = some (.int .i64 s.lo) ∧ w.cell? ⟨b, o + i * 7 + 3, none⟩ = some (.int .i64 s.hi) ∧
    w.cell? ⟨b, o + i * 7 + 4, none⟩ = some (.int .i64 s.fr) ∧ w.cell? ⟨b, o + i * 7 + 5, none⟩ = some (.int .i64 s.by_) ∧ w.cell? ⟨b, o + i * 7 + 6, none⟩ = some (.bool s.ho) := by
  have hr := h.cell i s hi
  exact ⟨hr 0 _ rfl, hr 1 _ rfl, hr 2 _ rfl, hr 3 _ rfl, hr 4 _ rfl, hr 5 _ rfl, hr 6 _ rfl⟩

theorem old_cells {W w1 : World} {B : Nat} (hb : Below B W w1) : (∀ b o, b < B → w1.cell? ⟨b, o, none⟩ = W.cell? ⟨b, o, none⟩) ∧ (∀ b o, b < B → w1.frozen? ⟨b, o, none⟩ = W.frozen? ⟨b, o, none⟩) :=
  ⟨fun b o h => hb.cell (p := ⟨b, o, none⟩) h, fun b o h => hb.frozen (p := ⟨b, o, none⟩) h⟩

theorem Stp.one (s : Stp) : (#[Value.int .i64 s.x, .int .i64 s.y, .int .i64 s.lo, .int .i64 s.hi, .int .i64 s.fr, .int .i64 s.by_, .bool s.ho].all (·.oneCell')) = true := by
  simp [Value.oneCell']

theorem there_of_block {w : World} {b : Nat} {C : Array Value} {t : TypeId} (hb : w.heap[b]? = some (.cells C t (0, 0))) (o n : Nat) (h : o + n ≤ C.size) : w.there b o n := fun j hj =>
  ⟨by rw [cell_of_row w b (o + j) C t _ hb]; simp; omega, frozen_of_row w b _ C t hb⟩

theorem there_below {w w' : World} {B b o n : Nat} (h : w.there b o n) (hb : Below B w w') (hB : b < B) : w'.there b o n := fun j hj =>
  ⟨by rw [hb.cell (p := ⟨b, o + j, none⟩) hB]; exact (h j hj).1, by rw [hb.frozen (p := ⟨b, o + j, none⟩) hB]; exact (h j hj).2⟩

theorem range_below {w w' : World} {B b o : Nat} {cs : List Value} (h : w.rangeAt b o cs) (hb : Below B w w') (hB : b < B) : w'.rangeAt b o cs := fun j v hv => by
  rw [hb.cell (p := ⟨b, o + j, none⟩) hB]; exact h j v hv

theorem below_setCells {B b : Nat} (hB : B ≤ b) : ∀ (vs : List Value) (o : Nat) (a w : World), Below B a w → Below B a (w.setCells b o vs)
  | [], _, _, _, h => h
  | v :: r, o, a, w, h => by
    rw [World.setCells]
    exact below_setCells hB r (o + 1) a _ (h.setCell (p := ⟨b, o, none⟩) hB v)

theorem size_setCells (b : Nat) : ∀ (vs : List Value) (o : Nat) (w : World), (w.setCells b o vs).heap.size = w.heap.size
  | [], _, _ => rfl
  | v :: r, o, w => by
    rw [World.setCells, size_setCells b r (o + 1)]
    simp [World.setCell]

theorem lt_of_there {w : World} {b o n : Nat} (h : w.there b o n) (hn : 0 < n) : b < w.heap.size := by
  obtain ⟨u, hu⟩ := Option.isSome_iff_exists.1 (h 0 hn).1
  exact World.block_lt_of_cell? w _ hu

theorem StepsAt.set {w : World} {a : Option Addr} {b o : Nat} {l : List Stp} (h : StepsAt w a b o l) {p : Addr} (hp : p.block ≠ b) (v : Value) : StepsAt (w.setCell p v) a b o l where
  here := h.here
  lt hl := by have := h.lt hl; simpa [World.setCell] using this
  cell i s hi j u hu := by
    rw [World.cell?_setCell_other _ _ _ _ (by intro e; exact hp (by rw [e]))]
    exact h.cell i s hi j u hu

theorem StepsAt.alloc {w : World} {a : Option Addr} {b o : Nat} {l : List Stp} (h : StepsAt w a b o l) (ob : Obj) : StepsAt (w.alloc ob) a b o l where
  here := h.here
  lt hl := by have := h.lt hl; simp; omega
  cell i s hi := World.rangeAt_alloc (h.cell i s hi) ob

/-- The i-th step is within its bounds, and can stand behind the one ahead of it. -/
def goodS (l : List Stp) (i : Nat) : Bool :=
  stepB (l.getD i .zero).x (l.getD i .zero).y (l.getD i .zero).lo (l.getD i .zero).hi (l.getD i .zero).fr (l.getD i .zero).by_ &&
    (decide (i = 0) || folB (l.getD (i - 1) .zero).x (l.getD (i - 1) .zero).y (l.getD (i - 1) .zero).lo (l.getD (i - 1) .zero).hi (l.getD i .zero).x (l.getD i .zero).y (l.getD i .zero).lo (l.getD i .zero).hi)
/-- So are the first k. -/
def goodTo (l : List Stp) (k : Nat) : Bool := (List.range k).all (goodS l)
theorem goodTo_zero (l : List Stp) : goodTo l 0 = true := rfl
theorem goodTo_succ (l : List Stp) (k : Nat) : goodTo l (k + 1) = (goodTo l k && goodS l k) := by
  simp [goodTo, List.range_succ, List.all_append]
theorem goodTo_le {l : List Stp} {k n : Nat} (h : goodTo l n = true) (hk : k ≤ n) : goodTo l k = true := by
  simp [goodTo] at *; intro i hi; exact h i (by omega)
theorem goodTo_not {l : List Stp} {k n : Nat} (hk : k < n) (h : goodS l k = false) : goodTo l n = false := by
  cases e : goodTo l n with
  | false => rfl
  | true =>
    have := goodTo_le e (show k + 1 ≤ n by omega)
    rw [goodTo_succ, h] at this
    simp at this
/-- A path is ok. -/
def pathB (q s fr b : Int) (l : List Stp) : Bool := kindB q s && inB l.length 1 40 && inB fr 0 b && decide (b ≤ 10000) && goodTo l l.length

theorem goodS_bad {l : List Stp} {k : Nat} {t : Stp} (ht : l.getD k .zero = t) (h : stepB t.x t.y t.lo t.hi t.fr t.by_ = false) : goodS l k = false := by
  unfold goodS; rw [ht, h]; rfl
theorem goodS_first {l : List Stp} {t : Stp} (ht : l.getD 0 .zero = t) (h : stepB t.x t.y t.lo t.hi t.fr t.by_ = true) : goodS l 0 = true := by
  unfold goodS; rw [ht, h]; rfl
theorem goodS_next {l : List Stp} {m : Nat} {p t : Stp} {v : Bool} (ht : l.getD (m + 1) .zero = t) (hp : l.getD m .zero = p) (h : stepB t.x t.y t.lo t.hi t.fr t.by_ = true)
    (hf : folB p.x p.y p.lo p.hi t.x t.y t.lo t.hi = v) : goodS l (m + 1) = v := by
  unfold goodS; rw [Nat.add_sub_cancel, ht, hp, h, hf]; simp
/-- What is left of a measure behind n more. -/
def leftB (left : Int) (n : Nat) : Int := if left - n < 0 then -1 else left - n
theorem leftB_left (left : Int) (n : Nat) (h0 : -1 ≤ left) (h1 : left ≤ 1048576) : -1 ≤ leftB left n ∧ leftB left n ≤ 1048576 := by
  unfold leftB; split <;> omega
end Go.Proofs.Ytfjlbgegjjdflaa

namespace Go.Proofs.Ytfjlbgegjjdflaa
open Go.RowKit

theorem blk2 {w : World} {B : Nat} {x y : Value} {t : TypeId} (h : w.heap[B]? = some (.cells #[x, y] t (0, 0))) : w.cell? ⟨B, 0, none⟩ = some x ∧ w.cell? ⟨B, 1, none⟩ = some y ∧ ∀ j, w.frozen? ⟨B, j, none⟩ = false :=
  ⟨by rw [cell_of_row w B 0 _ _ _ h]; rfl, by rw [cell_of_row w B 1 _ _ _ h]; rfl, fun j => frozen_of_row w B j _ _ h⟩
theorem blk2_after {W w' : World} {x y : Value} {t : TypeId} (hb : Below (W.alloc (.cells #[x, y] t)).heap.size (W.alloc (.cells #[x, y] t)) w') : w'.heap[W.heap.size]? = some (.cells #[x, y] t (0, 0)) :=
  (hb.block W.heap.size (by simp)).trans (heap_alloc_new W _)
theorem blk2_after_drew {W w' : World} {x y : Value} {t : TypeId} (hb : Below (W.alloc (.cells #[x, y] t)).drew.heap.size (W.alloc (.cells #[x, y] t)).drew w') : w'.heap[W.heap.size]? = some (.cells #[x, y] t (0, 0)) :=
  blk2_after ⟨hb.os, hb.tape, hb.output, hb.size, hb.block⟩
theorem blk2_after2 {W w' : World} {x y : Value} {t : TypeId} (hb : Below ((W.alloc (.cells #[x, y] t)).alloc (.cells #[x, y] t)).heap.size ((W.alloc (.cells #[x, y] t)).alloc (.cells #[x, y] t)) w') :
    w'.heap[W.heap.size]? = some (.cells #[x, y] t (0, 0)) ∧ w'.heap[W.heap.size + 1]? = some (.cells #[x, y] t (0, 0)) := by
  refine ⟨(hb.block W.heap.size (by simp; omega)).trans ((Below.heap_alloc _ _ _ (by simp)).trans (heap_alloc_new W _)), ?_⟩
  have h := blk2_after hb
  rwa [World.size_alloc] at h
theorem blk2_kept {W w' : World} {B : Nat} {x y : Value} {t : TypeId} (h : W.heap[B]? = some (.cells #[x, y] t (0, 0))) (hb : Below W.heap.size W w') : w'.heap[B]? = some (.cells #[x, y] t (0, 0)) :=
  (hb.block B (lt_of_block h)).trans h
theorem blk2_set0 {w : World} {B : Nat} {x y : Value} {t : TypeId} (h : w.heap[B]? = some (.cells #[x, y] t (0, 0))) (u : Value) : (w.setCell ⟨B, 0, none⟩ u).heap[B]? = some (.cells #[u, y] t (0, 0)) := by
  rw [heap_setCell_same w B 0 _ _ _ h]; rfl
theorem blk2_set1 {w : World} {B : Nat} {x y : Value} {t : TypeId} (h : w.heap[B]? = some (.cells #[x, y] t (0, 0))) (u : Value) : (w.setCell ⟨B, 1, none⟩ u).heap[B]? = some (.cells #[x, u] t (0, 0)) := by
  rw [heap_setCell_same w B 1 _ _ _ h]; rfl

theorem owns_base {w : World} {base e size n : Nat} {v : Value} {xs : List Value} (h : w.ownsRow base e size v n xs) : ∀ k, v.ownBlock = some k → base ≤ k := by
  intro k hk
  rcases h.2 with ⟨rfl, _⟩ | ⟨g, cap, cur, rfl, hg, _⟩
  · simp [Value.ownBlock] at hk
  · simp [Value.ownBlock] at hk; omega
theorem owns_empty {w : World} {base e size : Nat} (hb : base ≤ w.heap.size) : (w.alloc (.cells #[] e)).ownsRow base e size (.slice (some ⟨w.heap.size, 0, none⟩) 0 0) 0 [] := by
  have h := World.ownsRow_lit (base := base) (e := e) (size := size) w #[] 0 hb (by unfold maxLen; omega) (by simp)
  exact h
theorem two_new (w : World) (x y : Value) (t : TypeId) : ∀ (j : Nat) (u : Value), [x, y][j]? = some u → (w.alloc (.cells #[x, y] t)).cell? ((⟨w.heap.size, 0, none⟩ : Addr).add j) = some u := by
  intro j u hj
  match j, hj with
  | 0, hj => simp at hj; subst hj; simp [Addr.add, go_sem]
  | 1, hj => simp at hj; subst hj; simp [Addr.add, go_sem]
theorem owns_below {w w' : World} {base e size n : Nat} {v : Value} {xs : List Value} (h : w.ownsRow base e size v n xs) (hb : Below w.heap.size w w') : w'.ownsRow base e size v n xs :=
  ⟨h.1, h.2.imp id fun ⟨g, cap, cur, h1, h2, h3, h4⟩ => ⟨g, cap, cur, h1, h2, (hb.block g (lt_of_block h3)).trans h3, h4⟩⟩
theorem owns_set {w : World} {base e size n : Nat} {v : Value} {xs : List Value} (h : w.ownsRow base e size v n xs) {B : Nat} (hB : ∀ k, v.ownBlock = some k → k ≠ B) (j : Nat) (u : Value) : (w.setCell ⟨B, j, none⟩ u).ownsRow base e size v n xs :=
  ⟨h.1, h.2.imp id fun ⟨g, cap, cur, h1, h2, h3, h4⟩ => ⟨g, cap, cur, h1, h2, by rw [heap_setCell_other w ⟨B, j, none⟩ g u (hB g (by rw [h1]; rfl))]; exact h3, h4⟩⟩
theorem owns_lt {w : World} {base e size n : Nat} {v : Value} {xs : List Value} (h : w.ownsRow base e size v n xs) : ∀ k, v.ownBlock = some k → k < w.heap.size := by
  intro k hk
  rcases h.2 with ⟨rfl, _⟩ | ⟨g, cap, cur, rfl, _, h3, _⟩
  · simp [Value.ownBlock] at hk
  · simp [Value.ownBlock] at hk; subst hk; exact lt_of_block h3

/-- The slice of a row that is not empty. -/
theorem owns_some {w : World} {base e size n : Nat} {v : Value} {xs : List Value} (h : w.ownsRow base e size v n xs) (hn : 0 < n) : ∃ g cap, v = .slice (some ⟨g, 0, none⟩) n cap ∧ base ≤ g ∧ g < w.heap.size := by
  rcases h.2 with ⟨_, h0⟩ | ⟨g, cap, cur, rfl, hg, hh, _⟩
  · omega
  · exact ⟨g, cap, rfl, hg, lt_of_block hh⟩
end Go.Proofs.Ytfjlbgegjjdflaa

namespace Go.Proofs.Ytfjlbgegjjdflaa
open Go.RowKit

theorem grown_set (W : World) (p : Addr) (v : Value) : W.grownBy (W.setCell p v) (some p.block) :=
  ⟨rfl, rfl, rfl, by simp [World.setCell], fun k _ hk => heap_setCell_other W p k v (fun e => hk (by rw [e]))⟩

theorem grown_over2 {a b c : World} {row : Option Nat} (h : a.grownBy b row) (k : b.grownBy c row) : a.grownBy c row :=
  ⟨k.os.trans h.os, k.tape.trans h.tape, k.output.trans h.output, Nat.le_trans h.size k.size, fun i hi hne => (k.block i (Nat.lt_of_lt_of_le hi h.size) hne).trans (h.block i hi hne)⟩

/-- The marks: numbers one behind another. -/
def markV (k0 : Int) (n : Nat) : List Value := (List.range n).map fun (j : Nat) => .int .i64 (k0 + (j : Int))
theorem markV_length (k0 : Int) (n : Nat) : (markV k0 n).length = n := by simp [markV]
theorem markV_get (k0 : Int) {n i : Nat} (h : i < n) : (markV k0 n)[i]? = some (.int .i64 (k0 + (i : Int))) := by simp [markV, h]
end Go.Proofs.Ytfjlbgegjjdflaa

namespace Go.Proofs.Ytfjlbgegjjdflaa
open Go.RowKit

section
variable {P : Program} {ops : Array Oper} {md : Region.Mode} {Q : Exit → Act → World → Prop} {C : Array Bool → World → Prop} {N : Nat}

/-- What is asked of an operation that has been carried out: its value, and a world of the next class. -/
def moveUpon (P : Program) (C' : World → Prop) (v : Value) : Result Next → Prop
  | .ok (.value u) w' => u = v ∧ C' w'
  | .ok .skip w' => v = undef ∧ C' w'
  | .ok (.enter f args) w' => Calls P f args w' (fun e w'' => e = .returned v ∧ C' w'')
  | _ => False

/-- What has come up had all come up that it waits for. -/
def Closed (md : Region.Mode) (ops : Array Oper) (L : Array Bool) : Prop := ∀ j o, ops[j]? = some o → L.getD j false = true → ∀ e ∈ o.after, Region.binds md e = true → L.getD e.on false = true
theorem Closed.set {L : Array Bool} {i : Nat} (h : Closed md ops L) (hi : i ∈ Region.ready md ops L) : Closed md ops (L.setIfInBounds i true) := by
  obtain ⟨_, oi, hoi, hall⟩ := mem_ready.1 hi
  have up : ∀ k, L.getD k false = true → (L.setIfInBounds i true).getD k false = true := fun k hk => by
    by_cases e : i = k
    · subst e
      rcases Nat.lt_or_ge i L.size with h' | h'
      · simp [h']
      · simp [Array.getElem?_eq_none h'] at hk
    · rw [getD_set_ne false e]; exact hk
  intro j o ho hj e he hb
  by_cases hji : i = j
  · subst hji
    rw [hoi] at ho
    cases ho
    exact up _ (hall e he hb)
  · rw [getD_set_ne false hji] at hj
    exact up _ (h j o ho hj e he hb)
theorem Closed.start (n : Nat) : Closed md ops (Array.replicate n false) := by
  intro j o _ hj
  rcases Nat.lt_or_ge j n with h' | h'
  · simp [h'] at hj
  · simp [h'] at hj

/-- Operation i leaves v in its slot, whatever has come up ahead of it, and leads to the class in which it has come up too. -/
def Moves (P : Program) (md : Region.Mode) (ops : Array Oper) (C : Array Bool → World → Prop) (i : Nat) (o : Oper) (v : Value) (a : Act) : Prop :=
  (Region.wanted o (yielded ops a.tmps) = true ∧ ∀ L w, Closed md ops L → i ∈ Region.ready md ops L → C L w → moveUpon P (C (L.setIfInBounds i true)) v ((execOp a.eval o).run P w)) ∨
  (Region.wanted o (yielded ops a.tmps) = false ∧ v = undef ∧ ∀ L w, Closed md ops L → i ∈ Region.ready md ops L → C L w → C (L.setIfInBounds i true) w)

theorem Moves.of_same {i : Nat} {o : Oper} {v : Value} {a a' : Act} (h : Moves P md ops C i o v a) (he : execOp a'.eval o = execOp a.eval o)
    (hw : Region.wanted o (yielded ops a'.tmps) = Region.wanted o (yielded ops a.tmps)) : Moves P md ops C i o v a' := by
  unfold Moves at *
  rw [he, hw]
  exact h

/-- Whatever order is picked from here on, of the first N. -/
def anyM (P : Program) (md : Region.Mode) (ops : Array Oper) (C : Array Bool → World → Prop) (N : Nat) (fin : Array Bool → Act → Prop) : Nat → Array Bool → Act → Prop
  | 0, L, a => (∀ j ∈ Region.ready md ops L, N ≤ j) ∧ fin L a
  | n + 1, L, a => Region.ready md ops L ≠ [] ∧ ∀ i ∈ Region.ready md ops L, i < N ∧ ∃ o v, ops[i]? = some o ∧ Moves P md ops C i o v a ∧ anyM P md ops C N fin n (L.setIfInBounds i true) (a.put o.dst v)

theorem any_of_M {m : Nat} {fin : Array Bool → Act → Prop} (hfin : ∀ L a w, fin L a → C L w → wpAny P md ops Q m L a w) :
    ∀ (n : Nat) (L : Array Bool) (a : Act) (w : World), Closed md ops L → C L w → anyM P md ops C N fin n L a → wpAny P md ops Q (n + m) L a w
  | 0, L, a, w, _, hw, h => by rw [Nat.zero_add]; exact hfin L a w h.2 hw
  | n + 1, L, a, w, hcl, hw, h => by
    rw [show n + 1 + m = (n + m) + 1 by omega]
    refine ⟨fun e => absurd e h.1, fun i hi => ?_⟩
    obtain ⟨_, o, v, ho, hm, hk⟩ := h.2 i hi
    refine wpOp_step ho (fun K' hK => ?_)
    rcases hm with ⟨hwt, hm⟩ | ⟨hwt, rfl, hm⟩
    · rw [if_pos hwt]
      have h3 := hm L w hcl hi hw
      unfold Oper.wp
      generalize (execOp a.eval o).run P w = r at *
      cases r with
      | ok x w' =>
        cases x <;> simp only [moveUpon] at h3 <;> simp only [Oper.upon]
        case value u =>
          obtain ⟨e1, e2⟩ := h3
          rw [e1]
          exact hK _ _ (any_of_M hfin n _ _ _ (hcl.set hi) e2 hk)
        case skip =>
          obtain ⟨e1, e2⟩ := h3
          rw [← e1]
          exact hK _ _ (any_of_M hfin n _ _ _ (hcl.set hi) e2 hk)
        case enter f args =>
          exact h3.mono fun e w'' ⟨he, hw''⟩ => by subst he; exact hK _ _ (any_of_M hfin n _ _ _ (hcl.set hi) hw'' hk)
      | halt x w' => simp only [moveUpon] at h3
    · rw [if_neg (by rw [hwt]; exact Bool.false_ne_true)]
      exact hK _ _ (any_of_M hfin n _ _ _ (hcl.set hi) (hm L w hcl hi hw) hk)

/-- An operation that may come up now, and is apart from what does not wait for it, may be taken first. -/
theorem anyM_take {fin : Array Bool → Act → Prop} {i : Nat} {oi : Oper} {v : Value} (hi : ops[i]? = some oi) (hiN : i < N) (hsel : ∀ (j : Nat) (o : Oper) cs b, ops[j]? = some o → o.op ≠ .select cs b)
    (htail : ∀ L : Array Bool, Closed md ops L → L.getD i true = false → ∀ j ∈ Region.ready md ops L, j < N) :
    ∀ (n : Nat) (L : Array Bool) (a : Act), Closed md ops L →
      (∀ j oj, ops[j]? = some oj → j ≠ i → L.getD j true = false → (∀ e ∈ oj.after, Region.binds md e = true → e.on ≠ i) → oi.apart ops oj = true) →
      i ∈ Region.ready md ops L → Moves P md ops C i oi v a →
      anyM P md ops C N fin n (L.setIfInBounds i true) (a.put oi.dst v) → anyM P md ops C N fin (n + 1) L a := by
  intro n
  induction n with
  | zero =>
    intro L a hcl _ hr hy H
    refine ⟨fun e => (by rw [e] at hr; cases hr), fun j hj => ?_⟩
    by_cases hji : j = i
    · subst hji; exact ⟨hiN, oi, v, hi, hy, H⟩
    · have h1 := H.1 j (ready_mono hj hji)
      have h2 := htail L hcl (mem_ready.1 hr).1 j hj
      omega
  | succ n ih =>
    intro L a hcl hfree hr hy H
    refine ⟨fun e => (by rw [e] at hr; cases hr), fun j hj => ?_⟩
    by_cases hji : j = i
    · subst hji; exact ⟨hiN, oi, v, hi, hy, H⟩
    · obtain ⟨hjun, oj, hoj, hall⟩ := mem_ready.1 hj
      obtain ⟨hjN, o, u, ho, hyj, hk⟩ := H.2 j (ready_mono hj hji)
      rw [hoj] at ho
      cases ho
      have hun : L.getD i true = false := (mem_ready.1 hr).1
      have clash : L.getD i false = true → False := fun h1 => by
        rcases Nat.lt_or_ge i L.size with h' | h'
        · simp [h'] at hun h1; rw [hun] at h1; cases h1
        · simp [Array.getElem?_eq_none h'] at h1
      have hnot : ∀ e ∈ oj.after, Region.binds md e = true → e.on ≠ i := fun e he hb heq => clash (by have := hall e he hb; rwa [heq] at this)
      obtain ⟨a1, a2, a3⟩ := Oper.apart_spec (hfree j oj hoj hji hjun hnot)
      have hfree' : ∀ k ok, ops[k]? = some ok → k ≠ i → (L.setIfInBounds j true).getD k true = false → (∀ e ∈ ok.after, Region.binds md e = true → e.on ≠ i) → oi.apart ops ok = true := fun k ok hk hki hku hkn => hfree k ok hk hki (by
        by_cases hjk : j = k
        · subst hjk; exact hjun
        · rw [getD_set_ne true hjk] at hku; exact hku) hkn
      rw [Array.setIfInBounds_comm _ _ (Ne.symm hji), Act.put_comm a v _ a2] at hk
      exact ⟨hjN, oj, u, hoj, hyj.of_same (execOp_put oj (fun cs b => hsel j oj cs b hoj) a oi.dst v a1).symm (wanted_put oj a oi.dst v a1).symm,
        ih _ _ (hcl.set hj) hfree' (ready_mono hr (Ne.symm hji)) (hy.of_same (execOp_put oi (fun cs b => hsel i oi cs b hi) a oj.dst u a3) (wanted_put oi a oj.dst u a3)) hk⟩

/-- The lexical walk. -/
def wpMoves (P : Program) (md : Region.Mode) (ops : Array Oper) (C : Array Bool → World → Prop) (fin : Act → Prop) : List Oper → Nat → Act → Prop
  | [], _, a => fin a
  | o :: rest, k, a => ∃ v, Moves P md ops C k o v a ∧ wpMoves P md ops C fin rest (k + 1) (a.put o.dst v)
theorem wpMoves_nil {fin : Act → Prop} {k : Nat} {a : Act} (h : fin a) : wpMoves P md ops C fin [] k a := h
theorem wpMoves_mono {F G : Act → Prop} (hFG : ∀ a, F a → G a) : ∀ (l : List Oper) (k : Nat) (a : Act), wpMoves P md ops C F l k a → wpMoves P md ops C G l k a
  | [], _, _, h => hFG _ h
  | _ :: r, k, _, ⟨v, h1, h2⟩ => ⟨v, h1, wpMoves_mono hFG r (k + 1) _ h2⟩

/-- What is listed when n more are. -/
def listN (L : Array Bool) (k : Nat) : Nat → Array Bool
  | 0 => L
  | n + 1 => listN (L.setIfInBounds k true) (k + 1) n
/-- Operation t waits for operation i, by way of others too. -/
def waitT (md : Region.Mode) (ops : Array Oper) : Nat → Nat → Nat → Bool
  | 0, _, _ => false
  | n + 1, t, i => match ops[t]? with | some o => o.after.any fun e => Region.binds md e && (e.on == i || waitT md ops n e.on i) | none => false
theorem waitT_from {L : Array Bool} (hcl : Closed md ops L) : ∀ (n t i : Nat), waitT md ops n t i = true → (∀ o, ops[t]? = some o → ∀ e ∈ o.after, Region.binds md e = true → L.getD e.on false = true) → L.getD i false = true
  | 0, _, _, h, _ => by simp [waitT] at h
  | n + 1, t, i, h, hd => by
    unfold waitT at h
    cases ho : ops[t]? with
    | none => rw [ho] at h; cases h
    | some o =>
      rw [ho] at h
      simp only [Array.any_eq_true', Bool.and_eq_true, Bool.or_eq_true, beq_iff_eq] at h
      obtain ⟨e, he, hb, h3⟩ := h
      have h4 := hd o ho e he hb
      rcases h3 with rfl | h3
      · exact h4
      · exact waitT_from hcl n e.on i h3 (fun o' ho' => hcl e.on o' ho' h4)
theorem waitT_spec {n t i : Nat} {L : Array Bool} (hcl : Closed md ops L) (h : waitT md ops n t i = true) (ht : t ∈ Region.ready md ops L) : L.getD i false = true := by
  obtain ⟨_, o, ho, hall⟩ := mem_ready.1 ht
  exact waitT_from hcl n t i h (fun o' ho' => by rw [ho] at ho'; cases ho'; exact hall)
/-- The Bool over a region. -/
def lexM (md : Region.Mode) (ops : Array Oper) (N : Nat) : Nat → Nat → Array Bool → Bool
  | 0, _, L => (Region.ready md ops L).all fun j => decide (N ≤ j)
  | n + 1, k, L => (Region.ready md ops L).contains k && Region.free md ops L k && decide (k < N) && ((List.range ops.size).all fun t => decide (t < N) || waitT md ops 12 t k) && lexM md ops N n (k + 1) (L.setIfInBounds k true)

theorem anyM_lex {fin : Array Bool → Act → Prop} (hs : Region.noSelect ops = true) : ∀ (l : List Oper) (k : Nat) (L : Array Bool) (a : Act), Closed md ops L → (∀ j, j < l.length → l[j]? = ops[k + j]?) → lexM md ops N l.length k L = true →
    wpMoves P md ops C (fin (listN L k l.length)) l k a → anyM P md ops C N fin l.length L a
  | [], _, L, a, _, _, hB, h => by
    simp only [List.length_nil, lexM, List.all_eq_true, decide_eq_true_eq] at hB
    exact ⟨hB, h⟩
  | o :: l, k, L, a, hcl, hl, hB, h => by
    have h0 : ops[k]? = some o := by simpa using (hl 0 (by simp)).symm
    simp only [List.length_cons, lexM, Bool.and_eq_true, decide_eq_true_eq] at hB
    obtain ⟨⟨⟨⟨hr, hf⟩, hkN⟩, hwt⟩, hB'⟩ := hB
    obtain ⟨v, hy, hK⟩ := h
    have ih := anyM_lex hs l (k + 1) (L.setIfInBounds k true) (a.put o.dst v) (hcl.set (by simpa using hr)) (fun j hj => by have := hl (j + 1) (by simp; omega); simpa [Nat.add_assoc, Nat.add_comm 1 j] using this) hB' hK
    refine anyM_take h0 hkN (Region.noSelect_spec hs) (fun L' hcl' hL' j hj => ?_) l.length L a hcl (Region.free_spec h0 hf) (by simpa using hr) hy ih
    by_cases hjN : j < N
    · exact hjN
    · exfalso
      have hjs : j < ops.size := by
        obtain ⟨_, oj, hoj, _⟩ := mem_ready.1 hj
        exact (Array.getElem?_eq_some_iff.1 hoj).1
      have h1 := List.all_eq_true.1 hwt j (List.mem_range.2 hjs)
      simp only [Bool.or_eq_true, decide_eq_true_eq] at h1
      have h2 := waitT_spec hcl' (h1.resolve_left hjN) hj
      rcases Nat.lt_or_ge k L'.size with h' | h'
      · simp [h'] at hL' h2; rw [hL'] at h2; cases h2
      · simp [Array.getElem?_eq_none h'] at h2

/-- **The region**: the first N operations in any order, then what waits for all of them. -/
theorem wp_region_moves_at {id : Nat} {a : Act} {w : World} (N : Nat) (L0 L1 : Array Bool) (hm : P.follows .mixedOrders = true) (hs : Region.noSelect ops = true) (hN : N ≤ ops.size) (hL0 : Array.replicate ops.size false = L0) (hL1 : listN L0 0 N = L1)
    (hlex : lexM .any ops N N 0 L0 = true) (hC : C L0 w.drew)
    (h : wpMoves P .any ops C (fun a' => ∀ w', C L1 w' → wpAny P .any ops Q (ops.size - N) L1 a' w') (ops.toList.take N) 0 a) :
    (Code.region id ops true).wp P Q a w := by
  subst hL0 hL1
  have hlen : (ops.toList.take N).length = N := by rw [List.length_take, Array.length_toList]; omega
  refine wp_region_any hm ?_
  have key := anyM_lex (P := P) (C := C) (N := N) (md := .any) (fin := fun L a' => ∀ w', C L w' → wpAny P .any ops Q (ops.size - N) L a' w') hs (ops.toList.take N) 0 (Array.replicate ops.size false) a (Closed.start _)
    (fun j hj => by rw [hlen] at hj; rw [List.getElem?_take_of_lt hj]; simp) (by rw [hlen]; exact hlex)
  rw [hlen] at key
  have h2 := any_of_M (Q := Q) (m := ops.size - N) (fun L a' w' hf hw' => hf w' hw') N _ a w.drew (Closed.start _) hC (key h)
  rw [show N + (ops.size - N) = ops.size by omega] at h2
  exact h2

/-- All operations. -/
theorem wp_region_moves {id : Nat} {a : Act} {w : World} {l : List Oper} (L0 L1 : Array Bool) (hm : P.follows .mixedOrders = true) (hs : Region.noSelect l.toArray = true) (hL0 : Array.replicate l.length false = L0) (hL1 : listN L0 0 l.length = L1)
    (hlex : lexM .any l.toArray l.length l.length 0 L0 = true) (hC : C L0 w.drew) (he : Region.ready .any l.toArray L1 = [])
    (h : wpMoves P .any l.toArray C (fun a' => ∀ w', C L1 w' → Q .normal a' w') l 0 a) :
    (Code.region id l.toArray true).wp P Q a w := by
  refine wp_region_moves_at (C := C) l.length L0 L1 hm hs (by simp) (by simpa using hL0) hL1 hlex hC ?_
  simp only [List.take_length]
  refine wpMoves_mono (fun a' h' w' hw' => ?_) _ _ _ h
  simp only [List.size_toArray, Nat.sub_self]
  exact ⟨he, h' w' hw'⟩

/-- An operation that never enters a function. -/
def plainOp : Op → Bool
  | .move _ | .assign _ | .load _ _ | .fieldAddr _ _ _ | .indexAddr _ _ _ | .binOp _ _ _ _ _ | .unOp _ _ _ | .convert _ _ _ | .extract _ _ | .field _ _ _ | .index _ _ _ | .build _ _ | .pick _ _ _ => true
  | .call { callee := .builtin .len, .. } => true
  | _ => false
theorem val_noEnter {s : Sem Value} {w w' : World} {f : FuncId} {args : Array Value} : (do pure (Next.value (← s)) : Sem Next).run P w ≠ .ok (.enter f args) w' := by
  rw [Sem.run_bind]
  cases s.run P w with
  | ok v w2 => intro h; cases h
  | halt x w2 => intro h; cases h
theorem plain_noEnter {o : Oper} (hp : plainOp o.op = true) {ρ : Operand → Value} {w w' : World} {f : FuncId} {args : Array Value} : (execOp ρ o).run P w ≠ .ok (.enter f args) w' := by
  obtain ⟨dst, op, ty, gd, af, at_⟩ := o
  cases op <;> first
    | exact absurd hp Bool.false_ne_true
    | exact val_noEnter
    | (intro h; cases h)
    | (rename_i c
       obtain ⟨callee, cargs, ctys⟩ := c
       cases callee <;> first
         | exact absurd hp Bool.false_ne_true
         | (rename_i b
            cases b <;> first
              | exact absurd hp Bool.false_ne_true
              | exact val_noEnter (s := Builtin.len_ ctys ty (cargs.map ρ))))
    | (rename_i c x y
       show (do pure (Next.value (if ← asBool (ρ c) then ρ x else ρ y)) : Sem Next).run P w ≠ _
       rw [Sem.run_bind]
       cases (asBool (ρ c)).run P w with
       | ok v w2 => intro h; cases h
       | halt x w2 => intro h; cases h)

/-- Operations that only read, in a row: one walk in the class of all worlds that may be there. -/
theorem moves_quiet {fin : Act → Prop} {rest : List Oper} {U : World → Prop} (S : List Nat) (hU : ∀ L w, (∀ j ∈ S, L.getD j false = true) → C L w → U w) :
    ∀ (l : List Oper) (k : Nat) (a : Act), (l.all fun o => plainOp o.op) = true → ((List.range l.length).all fun j => S.all fun s => waitT md ops 12 (k + j) s) = true → (∀ j, k ≤ j → j < k + l.length → ∀ L w, C L w → C (L.setIfInBounds j true) w) →
      wpQuiet P ops U (fun a' => wpMoves P md ops C fin rest (k + l.length) a') l a → wpMoves P md ops C fin (l ++ rest) k a
  | [], k, a, _, _, _, h => h
  | o :: l, k, a, hp, hS, hcl, h => by
    simp only [List.all_cons, Bool.and_eq_true] at hp
    have hw0 : ∀ s ∈ S, waitT md ops 12 k s = true := by
      have h1 := List.all_eq_true.1 hS 0 (by simp)
      simpa using List.all_eq_true.1 h1
    have hS' : ((List.range l.length).all fun j => S.all fun s => waitT md ops 12 (k + 1 + j) s) = true := by
      refine List.all_eq_true.2 fun j hj => ?_
      have h1 := List.all_eq_true.1 hS (j + 1) (by simp at hj ⊢; exact hj)
      rwa [show k + (j + 1) = k + 1 + j by omega] at h1
    have hcl0 := hcl k (Nat.le_refl _) (by simp)
    have hcl' : ∀ j, k + 1 ≤ j → j < k + 1 + l.length → ∀ L w, C L w → C (L.setIfInBounds j true) w := fun j h1 h2 => hcl j (by omega) (by simp; omega)
    have hlen : k + (o :: l).length = k + 1 + l.length := by simp; omega
    rw [hlen] at h
    unfold wpQuiet at h
    split at h
    · rename_i hwt
      obtain ⟨v, hv, hk⟩ := h
      refine ⟨v, .inl ⟨hwt, fun L w hcL hr hC => ?_⟩, moves_quiet S hU l (k + 1) _ hp.2 hS' hcl' hk⟩
      have h3 := hv w (hU L w (fun s hs => waitT_spec hcL (hw0 s hs) hr) hC)
      unfold Oper.quietAt at h3
      have hne := @plain_noEnter P o hp.1 a.eval w
      generalize (execOp a.eval o).run P w = r at *
      cases r with
      | ok x w' =>
        cases x <;> simp only [Oper.quietUpon] at h3 <;> simp only [moveUpon]
        case value u =>
          obtain ⟨rfl, e2⟩ := h3
          exact ⟨e2, hcl0 L _ hC⟩
        case skip =>
          obtain ⟨rfl, e2⟩ := h3
          exact ⟨e2, hcl0 L _ hC⟩
        case enter f args => exact absurd rfl (hne (f := f) (args := args) (w' := w'))
      | halt x w' => simp only [Oper.quietUpon] at h3
    · rename_i hwt
      exact ⟨undef, .inr ⟨by simpa using hwt, rfl, fun L w _ _ hC => hcl0 L w hC⟩, moves_quiet S hU l (k + 1) _ hp.2 hS' hcl' h⟩

theorem wpQuiet_mono {U : World → Prop} {F G : Act → Prop} (hFG : ∀ a, F a → G a) : ∀ (l : List Oper) (a : Act), wpQuiet P ops U F l a → wpQuiet P ops U G l a
  | [], _, h => hFG _ h
  | o :: r, a, h => by
    unfold wpQuiet at *
    split
    · rename_i hw
      rw [if_pos hw] at h
      exact Oper.quiet_mono (fun a' h' => wpQuiet_mono hFG r a' h') h
    · rename_i hw
      rw [if_neg hw] at h
      exact wpQuiet_mono hFG r _ h

/-- An operation that turns the world. -/
theorem moves_one {fin : Act → Prop} {o : Oper} {rest : List Oper} {k : Nat} {a : Act} (v : Value) (hg : o.guard = none)
    (h : ∀ L w, Closed md ops L → k ∈ Region.ready md ops L → C L w → moveUpon P (C (L.setIfInBounds k true)) v ((execOp a.eval o).run P w)) (hr : wpMoves P md ops C fin rest (k + 1) (a.put o.dst v)) : wpMoves P md ops C fin (o :: rest) k a :=
  ⟨v, .inl ⟨by simp [Region.wanted, hg], h⟩, hr⟩
end
end Go.Proofs.Ytfjlbgegjjdflaa

namespace Go.Proofs.Ytfjlbgegjjdflaa
open Go.RowKit

/-- A reader's bytes, and where they lie. -/
structure Rdr where
  a : Option Addr
  b : Nat
  o : Nat
  cap : Nat
  bs : List Int

/-- The reader lies in block B, p bytes on. -/
structure RdAt (w : World) (B : Nat) (R : Rdr) (p : Nat) : Prop where
  blk : w.heap[B]? = some (.cells #[.slice R.a R.bs.length R.cap, .int .i64 (p : Int)] 80 (0, 0))
  here : R.bs ≠ [] → R.a = some ⟨R.b, R.o, none⟩
  lt : R.bs ≠ [] → R.b < B
  cell : ∀ (i : Nat) (z : Int), R.bs[i]? = some z → w.cell? ⟨R.b, R.o + i, none⟩ = some (.int .u8 z)
  rng : ∀ (i : Nat) (z : Int), R.bs[i]? = some z → 0 ≤ z ∧ z < 256
  len : R.bs.length ≤ 2000

theorem RdAt.grown {w w' : World} {B : Nat} {R : Rdr} {p : Nat} {row : Option Nat} (h : RdAt w B R p) (hg : w.grownBy w' row) (h1 : row ≠ some B) (h2 : ∀ k, row = some k → B ≤ k) : RdAt w' B R p where
  blk := (hg.block B (lt_of_block h.blk) (fun e => h1 e.symm)).trans h.blk
  here := h.here
  lt := h.lt
  cell i z hi := by
    have hne : R.bs ≠ [] := by intro e; rw [e] at hi; simp at hi
    have hlt := h.lt hne
    have hB := lt_of_block h.blk
    rw [World.cell?_of_block (w := w) (hg.block R.b (by omega) (fun e => by have := h2 _ e.symm; omega))]
    exact h.cell i z hi
  rng := h.rng
  len := h.len
theorem RdAt.below {w w' : World} {B : Nat} {R : Rdr} {p : Nat} {k : Nat} (h : RdAt w B R p) (hb : Below k w w') (hk : B < k) : RdAt w' B R p where
  blk := (hb.block B hk).trans h.blk
  here := h.here
  lt := h.lt
  cell i z hi := by
    have hne : R.bs ≠ [] := by intro e; rw [e] at hi; simp at hi
    have hlt := h.lt hne
    rw [hb.cell (p := ⟨R.b, R.o + i, none⟩) (by show R.b < k; omega)]
    exact h.cell i z hi
  rng := h.rng
  len := h.len
theorem RdAt.next {w : World} {B : Nat} {R : Rdr} {p : Nat} (h : RdAt w B R p) : RdAt (w.setCell ⟨B, 1, none⟩ (.int .i64 ((p : Int) + 1))) B R (p + 1) where
  blk := by rw [blk2_set1 h.blk]; rfl
  here := h.here
  lt := h.lt
  cell i z hi := by
    have hne : R.bs ≠ [] := by intro e; rw [e] at hi; simp at hi
    have hlt := h.lt hne
    rw [World.cell?_setCell_other _ _ _ _ (by intro e; have := congrArg Addr.block e; simp at this; omega)]
    exact h.cell i z hi
  rng := h.rng
  len := h.len

theorem xor64_nat (a b : Nat) (ha : a < 9223372036854775808) (hb : b < 9223372036854775808) : bits .xor .i64 (a : Int) (b : Int) = ((a ^^^ b : Nat) : Int) := by
  have hx : a ^^^ b < 2 ^ 63 := Nat.xor_lt_two_pow (by omega) (by omega)
  have h1 : (BitVec.ofInt 64 (a : Int)).toNat = a := by
    rw [BitVec.ofInt_natCast, BitVec.toNat_ofNat]; exact Nat.mod_eq_of_lt (by omega)
  have h2 : (BitVec.ofInt 64 (b : Int)).toNat = b := by
    rw [BitVec.ofInt_natCast, BitVec.toNat_ofNat]; exact Nat.mod_eq_of_lt (by omega)
  show IntKind.i64.wrap ((BitVec.ofInt 64 (a : Int) ^^^ BitVec.ofInt 64 (b : Int)).toNat : Int) = _
  rw [BitVec.toNat_xor, h1, h2]
  simp only [IntKind.wrap, IntKind.bits, IntKind.signed]
  generalize a ^^^ b = c at *
  simp
  omega
/-- The mixture past a reader's end. -/
def mixX (z1 z2 : Int) (p N : Nat) : Int := wrap64 (z1 * 131 + z2 * 1117 + (p : Int) * 29 + wrap64 (wrap64 ((p : Int) / (N : Int)) * 53))
def mixV (x n : Int) : Int := (bits .xor .i64 x (wrap64 (x.tdiv 64))).tmod n
theorem mixX_range {z1 z2 : Int} {p N : Nat} (h1 : 0 ≤ z1 ∧ z1 < 256) (h2 : 0 ≤ z2 ∧ z2 < 256) (hp : p ≤ 1000000000) : 0 ≤ mixX z1 z2 p N ∧ mixX z1 z2 p N < 1000000000000 := by
  have h3 : (0 : Int) ≤ (p : Int) / (N : Int) := Int.ediv_nonneg (by omega) (by omega)
  have h4 : (p : Int) / (N : Int) ≤ (p : Int) := Int.ediv_le_self _ (by omega)
  unfold mixX
  generalize (p : Int) / (N : Int) = d at *
  have w1 : wrap64 d = d := by unfold wrap64; omega
  rw [w1]
  have w2 : wrap64 (d * 53) = d * 53 := by unfold wrap64; omega
  rw [w2]
  have w3 : wrap64 (z1 * 131 + z2 * 1117 + (p : Int) * 29 + d * 53) = z1 * 131 + z2 * 1117 + (p : Int) * 29 + d * 53 := by unfold wrap64; omega
  rw [w3]
  omega
theorem mixV_range {x n : Int} (h : 0 ≤ x ∧ x < 1000000000000) (hn : 1 ≤ n) : 0 ≤ mixV x n ∧ mixV x n < n := by
  obtain ⟨m, rfl⟩ := Int.eq_ofNat_of_zero_le h.1
  have h1 : (m : Int).tdiv 64 = ((m / 64 : Nat) : Int) := by rw [Int.tdiv_eq_ediv_of_nonneg (by omega)]; rfl
  have h2 : wrap64 ((m / 64 : Nat) : Int) = ((m / 64 : Nat) : Int) := by unfold wrap64; omega
  unfold mixV
  rw [h1, h2, xor64_nat m (m / 64) (by omega) (by omega)]
  rw [Int.tmod_eq_emod_of_nonneg (by omega)]
  exact ⟨Int.emod_nonneg _ (by omega), Int.emod_lt_of_pos _ (by omega)⟩
/-- What the reader picks out of n. -/
def pickV (R : Rdr) (p : Nat) (n : Int) : Int :=
  if n < 1 then 0 else if R.bs.length = 0 then 0 else if p < R.bs.length then R.bs.getD p 0 % n else mixV (mixX (R.bs.getD (p % R.bs.length) 0) (R.bs.getD ((p * 7 + 3) % R.bs.length) 0) p R.bs.length) n
theorem getD_get {l : List Int} {i : Nat} (h : i < l.length) : l[i]? = some (l.getD i 0) := by simp [List.getD, h]
theorem pickV_range {R : Rdr} {p : Nat} {n : Int} (hr : ∀ (i : Nat) (z : Int), R.bs[i]? = some z → 0 ≤ z ∧ z < 256) (hp : p ≤ 1000000000) (hn : 1 ≤ n) : 0 ≤ pickV R p n ∧ pickV R p n < n := by
  unfold pickV
  rw [if_neg (by omega)]
  by_cases h0 : R.bs.length = 0
  · rw [if_pos h0]; omega
  · rw [if_neg h0]
    by_cases h1 : p < R.bs.length
    · rw [if_pos h1]
      exact ⟨Int.emod_nonneg _ (by omega), Int.emod_lt_of_pos _ (by omega)⟩
    · rw [if_neg h1]
      have g1 : p % R.bs.length < R.bs.length := Nat.mod_lt _ (by omega)
      have g2 : (p * 7 + 3) % R.bs.length < R.bs.length := Nat.mod_lt _ (by omega)
      exact mixV_range (mixX_range (hr _ _ (getD_get g1)) (hr _ _ (getD_get g2)) hp) hn

set_option maxHeartbeats 1000000 in
theorem pick_none (B : Nat) (R : Rdr) (p : Nat) (n : Int) (w : World) (h : RdAt w B R p) (hp : p ≤ 1000000000) (hn : n < 1 ∨ R.bs = []) :
    Calls Try.prog 30 #[.pointer (some ⟨B, 0, none⟩), .int .i64 n] w fun e w' => e = .returned (.int .i64 0) ∧ w' = w.setCell ⟨B, 1, none⟩ (.int .i64 ((p : Int) + 1)) := by
  obtain ⟨c0, c1, cf⟩ := blk2 h.blk
  have b0 : (0 : Int) ≤ (p : Int) := by omega
  have b1 : (p : Int) ≤ 1000000000 := by omega
  by_cases h1 : n < 1
  · go_enter Try.func30, Try.ntmps30
    go_wp2
    go_ret
    exact ⟨rfl, rfl⟩
  · have h2 := hn.resolve_left h1
    have h3 : R.bs.length = 0 := by rw [h2]; rfl
    rw [h3] at c0
    go_enter Try.func30, Try.ntmps30
    go_wp2
    go_ret
    exact ⟨rfl, rfl⟩
set_option maxHeartbeats 1000000 in
theorem pick_near (B : Nat) (R : Rdr) (p : Nat) (n z : Int) (w : World) (h : RdAt w B R p) (hp : p ≤ 1000000000) (hn : ¬ n < 1) (hz : R.bs[p]? = some z) :
    Calls Try.prog 30 #[.pointer (some ⟨B, 0, none⟩), .int .i64 n] w fun e w' => e = .returned (.int .i64 (z % n)) ∧ w' = w.setCell ⟨B, 1, none⟩ (.int .i64 ((p : Int) + 1)) := by
  obtain ⟨c0, c1, cf⟩ := blk2 h.blk
  have b0 : (0 : Int) ≤ (p : Int) := by omega
  have b1 : (p : Int) ≤ 1000000000 := by omega
  have hpl : p < R.bs.length := (List.getElem?_eq_some_iff.1 hz).1
  have b2 : (p : Int) < (R.bs.length : Int) := by omega
  have hne : R.bs ≠ [] := by intro e; rw [e] at hz; simp at hz
  have b3 : ((R.bs.length : Int) == 0) = false := beq_eq_false_iff_ne.2 (by omega)
  have c2 := h.cell p z hz
  have cl := h.len
  obtain ⟨z0, z1⟩ := h.rng p z hz
  have e1 := h.here hne
  rw [e1] at c0
  have hlt := h.lt hne
  have hbB : R.b ≠ B := by omega
  go_enter Try.func30, Try.ntmps30
  go_wp2
  go_ret
  exact ⟨rfl, rfl⟩
set_option maxHeartbeats 4000000 in
theorem pick_far (B : Nat) (R : Rdr) (p : Nat) (n z1 z2 : Int) (w : World) (h : RdAt w B R p) (hp : p ≤ 1000000000) (hn : ¬ n < 1) (hne : R.bs ≠ []) (hz : R.bs.length ≤ p)
    (h1 : R.bs[p % R.bs.length]? = some z1) (h2 : R.bs[(p * 7 + 3) % R.bs.length]? = some z2) :
    Calls Try.prog 30 #[.pointer (some ⟨B, 0, none⟩), .int .i64 n] w fun e w' => e = .returned (.int .i64 (mixV (mixX z1 z2 p R.bs.length) n)) ∧ ∃ nq, w' = (w.setCell ⟨B, 1, none⟩ (.int .i64 ((p : Int) + 1))).drewN nq := by
  obtain ⟨c0, c1, cf⟩ := blk2 h.blk
  have b0 : (0 : Int) ≤ (p : Int) := by omega
  have b1 : (p : Int) ≤ 1000000000 := by omega
  have hN : 0 < R.bs.length := List.length_pos_iff.2 hne
  have cl := h.len
  have c2 := h.cell _ z1 h1
  have c3 := h.cell _ z2 h2
  obtain ⟨x0, x1⟩ := h.rng _ z1 h1
  obtain ⟨y0, y1⟩ := h.rng _ z2 h2
  have e1 := h.here hne
  rw [e1] at c0
  have hlt := h.lt hne
  have hbB : R.b ≠ B := by omega
  clear h1 h2 hne e1 h
  generalize hNN : R.bs.length = N at *
  have b2 : ¬ (p : Int) < (N : Int) := by omega
  have b3 : ((N : Int) == 0) = false := beq_eq_false_iff_ne.2 (by omega)
  have b4 : (0 : Int) < (N : Int) := by omega
  have b5 : (N : Int) ≤ 2000 := by omega
  have d1 : (0 : Int) ≤ (p : Int) % (N : Int) := Int.emod_nonneg _ (by omega)
  have d2 : (p : Int) % (N : Int) < (N : Int) := Int.emod_lt_of_pos _ b4
  have d3 : (0 : Int) ≤ ((p : Int) * 7 + 3) % (N : Int) := Int.emod_nonneg _ (by omega)
  have d4 : ((p : Int) * 7 + 3) % (N : Int) < (N : Int) := Int.emod_lt_of_pos _ b4
  go_enter Try.func30, Try.ntmps30
  go_wp2
  go_quiet (fail)
  go_wp2
  go_ret
  exact ⟨rfl, nq, rfl⟩
theorem grown_drewN {a w : World} {row : Option Nat} (h : a.grownBy w row) (n : Nat) : a.grownBy (w.drewN n) row := ⟨h.os, h.tape, h.output, h.size, h.block⟩
theorem RdAt.drewN {w : World} {B : Nat} {R : Rdr} {p : Nat} (h : RdAt w B R p) (n : Nat) : RdAt (w.drewN n) B R p :=
  h.below (k := B + 1) ⟨rfl, rfl, rfl, Nat.le_refl _, fun _ _ => rfl⟩ (Nat.lt_succ_self _)

/-- **pick**: what it picks hangs on the bytes and on how many were picked; nothing but the count is turned. -/
theorem pick_any (B : Nat) (R : Rdr) (p : Nat) (n : Int) (w : World) (h : RdAt w B R p) (hp : p ≤ 1000000000) :
    Calls Try.prog 30 #[.pointer (some ⟨B, 0, none⟩), .int .i64 n] w fun e w' => e = .returned (.int .i64 (pickV R p n)) ∧ RdAt w' B R (p + 1) ∧ w.grownBy w' (some B) ∧ w'.heap.size = w.heap.size := by
  have hs : (w.setCell ⟨B, 1, none⟩ (.int .i64 ((p : Int) + 1))).heap.size = w.heap.size := by simp [World.setCell]
  have hgr := grown_set w ⟨B, 1, none⟩ (.int .i64 ((p : Int) + 1))
  by_cases h1 : n < 1
  · have e : pickV R p n = 0 := by unfold pickV; rw [if_pos h1]
    rw [e]
    refine (pick_none B R p n w h hp (.inl h1)).mono ?_
    rintro e w' ⟨rfl, rfl⟩
    exact ⟨rfl, h.next, hgr, hs⟩
  · by_cases h2 : R.bs.length = 0
    · have e : pickV R p n = 0 := by unfold pickV; rw [if_neg h1, if_pos h2]
      rw [e]
      refine (pick_none B R p n w h hp (.inr (List.eq_nil_of_length_eq_zero h2))).mono ?_
      rintro e w' ⟨rfl, rfl⟩
      exact ⟨rfl, h.next, hgr, hs⟩
    · by_cases h3 : p < R.bs.length
      · have e : pickV R p n = R.bs.getD p 0 % n := by unfold pickV; rw [if_neg h1, if_neg h2, if_pos h3]
        rw [e]
        refine (pick_near B R p n _ w h hp h1 (getD_get h3)).mono ?_
        rintro e w' ⟨rfl, rfl⟩
        exact ⟨rfl, h.next, hgr, hs⟩
      · have e : pickV R p n = mixV (mixX (R.bs.getD (p % R.bs.length) 0) (R.bs.getD ((p * 7 + 3) % R.bs.length) 0) p R.bs.length) n := by unfold pickV; rw [if_neg h1, if_neg h2, if_neg h3]
        rw [e]
        refine (pick_far B R p n _ _ w h hp h1 (by intro e; rw [e] at h2; exact h2 rfl) (by omega) (getD_get (Nat.mod_lt _ (by omega))) (getD_get (Nat.mod_lt _ (by omega)))).mono ?_
        rintro e w' ⟨rfl, nq, rfl⟩
        exact ⟨rfl, h.next.drewN nq, grown_drewN hgr nq, hs⟩
end Go.Proofs.Ytfjlbgegjjdflaa

namespace Go.Proofs.Ytfjlbgegjjdflaa
open Go.RowKit
section
variable {Q : Exit → Act → World → Prop}

/-- Nothing is left. -/
theorem any_end0 {l : List Oper} {a : Act} {w : World} {L1 : Array Bool} (he : Region.ready .any l.toArray L1 = []) (h : Q .normal a w) : wpAny Try.prog .any l.toArray Q (l.length - l.length) L1 a w := by
  rw [Nat.sub_self]
  exact ⟨he, h⟩
/-- One operation is left. -/
theorem any_end1 {ops : Array Oper} {N m : Nat} {a : Act} {w : World} {L1 : Array Bool} (ol : Oper) (hm : m = 1) (r0 : Region.ready .any ops L1 = [N]) (r1 : Region.ready .any ops (L1.setIfInBounds N true) = []) (hl : ops[N]? = some ol) (hgl : ol.guard = none)
    (h : ol.wp Try.prog a w (fun a3 w'' => Q .normal a3 w'') Q) : wpAny Try.prog .any ops Q m L1 a w := by
  subst hm
  refine ⟨fun e => (by rw [r0] at e; cases e), fun i hi => ?_⟩
  rw [r0] at hi
  obtain rfl : i = N := by simpa using hi
  refine wpOp_step (o := ol) hl (fun K' hK => ?_)
  rw [if_pos (by simp [Region.wanted, hgl])]
  exact Oper.wp_mono (fun a3 w'' h'' => hK _ _ ⟨r1, h''⟩) h
/-- One operation, and more. -/
theorem any_end2 {ops : Array Oper} {N m : Nat} {a : Act} {w : World} {L1 : Array Bool} (ol : Oper) (m' : Nat) (hm : m = m' + 1) (r0 : Region.ready .any ops L1 = [N]) (hl : ops[N]? = some ol) (hgl : ol.guard = none)
    (h : ol.wp Try.prog a w (wpAny Try.prog .any ops Q m' (L1.setIfInBounds N true)) Q) : wpAny Try.prog .any ops Q m L1 a w := by
  subst hm
  refine ⟨fun e => (by rw [r0] at e; cases e), fun i hi => ?_⟩
  rw [r0] at hi
  obtain rfl : i = N := by simpa using hi
  refine wpOp_step (o := ol) hl (fun K' hK => ?_)
  rw [if_pos (by simp [Region.wanted, hgl])]
  exact Oper.wp_mono (fun a3 w'' h'' => hK _ _ h'') h
end
end Go.Proofs.Ytfjlbgegjjdflaa

namespace Go.Proofs.Ytfjlbgegjjdflaa
open Go.RowKit

/-- The worlds in which all that lay in w, but block B, lies as it lay. -/
structure ClsR (w : World) (B : Nat) where
  it : World
  same : w.grownBy it (some B)
theorem ClsR.any (w : World) (B : Nat) : Nonempty (ClsR w B) := ⟨⟨w, ⟨rfl, rfl, rfl, Nat.le_refl _, fun _ _ _ => rfl⟩⟩⟩
theorem ClsR.cell {w : World} {B b : Nat} (hb : b < w.heap.size) (hne : b ≠ B) (u : ClsR w B) (o : Nat) : u.it.cell? ⟨b, o, none⟩ = w.cell? ⟨b, o, none⟩ :=
  World.cell?_of_block (w := w) (u.same.block b hb (fun e => hne (by cases e; rfl)))
theorem grown_refl (w : World) (row : Option Nat) : w.grownBy w row := ⟨rfl, rfl, rfl, Nat.le_refl _, fun _ _ _ => rfl⟩
theorem grown_drew {a w : World} {row : Option Nat} (h : a.grownBy w row) : a.grownBy w.drew row := ⟨h.os, h.tape, h.output, h.size, h.block⟩

/-- What may be there while the region runs: op c has come up or not. -/
structure PickC (w : World) (B : Nat) (R : Rdr) (p c : Nat) (L : Array Bool) (w' : World) : Prop where
  gr : w.grownBy w' (some B)
  sz : w'.heap.size = w.heap.size
  rd : RdAt w' B R (if L.getD c false then p + 1 else p)
theorem PickC.other {w w' : World} {B : Nat} {R : Rdr} {p c j : Nat} {L : Array Bool} (h : PickC w B R p c L w') (hj : j ≠ c) : PickC w B R p c (L.setIfInBounds j true) w' :=
  ⟨h.gr, h.sz, by rw [getD_set_ne false hj]; exact h.rd⟩


section
variable {Q : Exit → Act → World → Prop} {w : World} {B : Nat} {R : Rdr} {p : Nat} {n : Int} {c : Nat} {ops : Array Oper} {fin : Act → Prop}

/-- The region's operations up to N, with one that picks, at c. -/
theorem region_picks {id : Nat} {a : Act} {l : List Oper} (c N : Nat) (L0 L1 : Array Bool) (hRd : RdAt w B R p) (hm : Try.prog.follows .mixedOrders = true) (hs : Region.noSelect l.toArray = true) (hN : N ≤ l.length) (hcN : c < N)
    (hL0 : Array.replicate l.length false = L0) (hL1 : listN L0 0 N = L1) (hc1 : L1.getD c false = true) (hlex : lexM .any l.toArray N N 0 L0 = true)
    (h : wpMoves Try.prog .any l.toArray (PickC w B R p c) (fun a' => ∀ w', w.grownBy w' (some B) → w'.heap.size = w.heap.size → RdAt w' B R (p + 1) → wpAny Try.prog .any l.toArray Q (l.length - N) L1 a' w') (l.take N) 0 a) :
    (Code.region id l.toArray true).wp Try.prog Q a w := by
  have hL0c : L0.getD c false = false := by
    rw [← hL0]
    simp [show c < l.length by omega]
  refine wp_region_moves_at (C := PickC w B R p c) N L0 L1 hm hs (by simpa using hN) (by simpa using hL0) hL1 hlex ⟨grown_drew (grown_refl _ _), rfl, by rw [hL0c]; exact hRd.below (k := B + 1) ⟨rfl, rfl, rfl, Nat.le_refl _, fun _ _ => rfl⟩ (Nat.lt_succ_self _)⟩ ?_
  refine wpMoves_mono (fun a' h' w' hC => ?_) _ _ _ h
  have hrd := hC.rd
  rw [hc1] at hrd
  have h4 := h' w' hC.gr hC.sz (by simpa using hrd)
  simpa using h4

/-- m operations that only read. -/
theorem pc_quiet {l : List Oper} {k : Nat} {a : Act} (m : Nat) (hp : ((l.take m).all fun o => plainOp o.op) = true) (hk : c < k ∨ k + m ≤ c)
    (h : wpQuiet Try.prog ops (fun w' => ∃ u : ClsR w B, w' = u.it) (fun a' => wpMoves Try.prog .any ops (PickC w B R p c) fin (l.drop m) (k + (l.take m).length) a') (l.take m) a) : wpMoves Try.prog .any ops (PickC w B R p c) fin l k a := by
  have hU : ∀ (L : Array Bool) (w' : World), (∀ j ∈ ([] : List Nat), L.getD j false = true) → PickC w B R p c L w' → ∃ u : ClsR w B, w' = u.it := fun L w' _ h => ⟨⟨w', h.gr⟩, rfl⟩
  have hlm : (l.take m).length ≤ m := by simp; omega
  rw [← List.take_append_drop m l]
  exact moves_quiet (U := fun w' => ∃ u : ClsR w B, w' = u.it) [] hU (l.take m) k a hp (by simp) (fun j h1 h2 L w' hC => hC.other (by omega)) h

/-- The one that picks. -/
theorem pc_pick {rest : List Oper} {oc : Oper} {a : Act} (hp : p ≤ 1000000000) (hg : oc.guard = none) (n : Int)
    (h1 : ∀ W, (execOp a.eval oc).run Try.prog W = .ok (.enter 30 #[.pointer (some ⟨B, 0, none⟩), .int .i64 n]) W)
    (h2 : wpMoves Try.prog .any ops (PickC w B R p c) fin rest (c + 1) (a.put oc.dst (.int .i64 (pickV R p n)))) : wpMoves Try.prog .any ops (PickC w B R p c) fin (oc :: rest) c a := by
  refine moves_one (.int .i64 (pickV R p n)) hg (fun L w' _ hr hC => ?_) h2
  rw [h1]
  have hun : L.getD c false = false := by
    have := (mem_ready.1 hr).1
    rcases Nat.lt_or_ge c L.size with h' | h'
    · simp [h'] at this ⊢; exact this
    · simp [Array.getElem?_eq_none h'] at this ⊢
  have hcs : c < L.size := by
    have := (mem_ready.1 hr).1
    rcases Nat.lt_or_ge c L.size with h' | h'
    · exact h'
    · simp [Array.getElem?_eq_none h'] at this
  have hrd := hC.rd
  rw [hun] at hrd
  refine (pick_any B R p n w' hrd hp).mono ?_
  rintro e w'' ⟨rfl, g1, g2, g3⟩
  exact ⟨rfl, grown_over2 hC.gr g2, g3.trans hC.sz, by simp [hcs]; exact g1⟩

/-- A call that turns nothing. -/
theorem pc_pure {rest : List Oper} {o : Oper} {a : Act} {k : Nat} {f : FuncId} {args : Array Value} (v : Value) (hg : o.guard = none) (hk : k ≠ c)
    (h1 : ∀ W, (execOp a.eval o).run Try.prog W = .ok (.enter f args) W) (hf : ∀ W, Calls Try.prog f args W fun e w' => e = .returned v ∧ w' = W)
    (h2 : wpMoves Try.prog .any ops (PickC w B R p c) fin rest (k + 1) (a.put o.dst v)) : wpMoves Try.prog .any ops (PickC w B R p c) fin (o :: rest) k a := by
  refine moves_one v hg (fun L w' _ hr hC => ?_) h2
  rw [h1]
  refine (hf w').mono ?_
  rintro e w'' ⟨rfl, rfl⟩
  exact ⟨rfl, hC.other hk⟩

end
end Go.Proofs.Ytfjlbgegjjdflaa

namespace Go.Proofs.Ytfjlbgegjjdflaa
open Go.RowKit

/-- The i-th step is within its bounds. -/
def okS (l : List Stp) (i : Nat) : Bool := stepB (l.getD i .zero).x (l.getD i .zero).y (l.getD i .zero).lo (l.getD i .zero).hi (l.getD i .zero).fr (l.getD i .zero).by_
def okTo (l : List Stp) (k : Nat) : Bool := (List.range k).all (okS l)
/-- The (i + 1)-th step follows the i-th, as the program asks it. -/
def folS (l : List Stp) (i : Nat) : Bool :=
  folB (l.getD (i + 1) .zero).x (l.getD (i + 1) .zero).y (l.getD (i + 1) .zero).lo (l.getD (i + 1) .zero).hi (l.getD i .zero).x (l.getD i .zero).y (l.getD i .zero).lo (l.getD i .zero).hi
def folTo (l : List Stp) (k : Nat) : Bool := (List.range k).all (folS l)

theorem all_succ (f : Nat → Bool) (k : Nat) : (List.range (k + 1)).all f = ((List.range k).all f && f k) := by
  simp [List.range_succ, List.all_append]
theorem all_not {f : Nat → Bool} {k n : Nat} (hk : k < n) (h : f k = false) : (List.range n).all f = false := by
  simp; exact ⟨k, hk, h⟩

theorem wrap64_small (x : Int) (h0 : -100 ≤ x) (h1 : x ≤ 100) : wrap64 x = x := by
  simp only [wrap64]; omega

theorem fol_comm {p t : Stp} (hp : stepB p.x p.y p.lo p.hi p.fr p.by_ = true) (ht : stepB t.x t.y t.lo t.hi t.fr t.by_ = true) :
    folB t.x t.y t.lo t.hi p.x p.y p.lo p.hi = folB p.x p.y p.lo p.hi t.x t.y t.lo t.hi := by
  simp only [stepB, decide_eq_true_eq] at hp ht
  unfold folB inB levB
  rw [wrap64_small (t.x - p.x) (by omega) (by omega), wrap64_small (t.y - p.y) (by omega) (by omega), wrap64_small (p.x - t.x) (by omega) (by omega), wrap64_small (p.y - t.y) (by omega) (by omega)]
  rw [Bool.eq_iff_iff]
  simp
  omega

/-- The program's five checks come to the specification's test. -/
theorem checks_path (q s fr b : Int) (l : List Stp) :
    (kindB q s && inB l.length 1 40 && okTo l l.length && folTo l (l.length - 1) && ordB 0 fr b 10000) = pathB q s fr b l := by
  have e1 : ordB 0 fr b 10000 = (inB fr 0 b && decide (b ≤ 10000)) := by rw [Bool.eq_iff_iff]; simp [ordB, inB]; omega
  have e2 : (okTo l l.length && folTo l (l.length - 1)) = goodTo l l.length := by
    rw [Bool.eq_iff_iff]
    simp only [okTo, folTo, goodTo, Bool.and_eq_true, List.all_eq_true, List.mem_range]
    constructor
    · rintro ⟨h1, h2⟩ i hi
      unfold goodS
      have k1 : stepB _ _ _ _ _ _ = true := h1 i hi
      rw [k1]
      cases i with
      | zero => rfl
      | succ m =>
        have k2 : stepB _ _ _ _ _ _ = true := h1 m (by omega)
        have k3 : folB _ _ _ _ _ _ _ _ = true := h2 m (by omega)
        rw [fol_comm k2 k1] at k3
        simp only [Nat.add_sub_cancel]
        rw [k3]; simp
    · intro h
      have h1 : ∀ i, i < l.length → okS l i = true := fun i hi => by
        have := h i hi
        unfold goodS at this
        exact (Bool.and_eq_true_iff.1 this).1
      refine ⟨h1, fun i hi => ?_⟩
      have := (Bool.and_eq_true_iff.1 (h (i + 1) (by omega))).2
      simp only [Nat.add_sub_cancel] at this
      have k0 : decide (i + 1 = 0) = false := by simp
      rw [k0, Bool.false_or] at this
      unfold folS
      rw [fol_comm (h1 i (by omega)) (h1 (i + 1) (by omega))]
      exact this
  unfold pathB
  rw [e1, ← e2]
  cases kindB q s <;> cases inB l.length 1 40 <;> cases okTo l l.length <;> cases folTo l (l.length - 1) <;> cases inB fr 0 b <;> cases decide (b ≤ 10000) <;> rfl
end Go.Proofs.Ytfjlbgegjjdflaa

namespace Go.Proofs.Ytfjlbgegjjdflaa
open Go.RowKit

def lowB (fr : Int) (l : List Stp) (k : Nat) : Int := if k < l.length then (l.getD k .zero).fr else fr
def highB (b : Int) (l : List Stp) (k : Nat) : Int := if k < l.length then (l.getD k .zero).by_ else b
def mostB (s : Int) (l : List Stp) (k : Nat) : Int := if (l.getD k .zero).ho then 10000 else s
/-- The k-th tick is within its window. -/
def winS (fr b : Int) (l : List Stp) (zs : List Int) (k : Nat) : Bool := inB (zs.getD k 0) (lowB fr l k) (highB b l k)
/-- From the k-th tick to the next there are as many ticks as there may be. -/
def stayS (q s : Int) (l : List Stp) (zs : List Int) (k : Nat) : Bool := inB (zs.getD (k + 1) 0 - zs.getD k 0) q (mostB s l k)
/-- As the specification asks it of the k-th tick. -/
def tickS (q s fr b : Int) (l : List Stp) (zs : List Int) (k : Nat) : Bool := winS fr b l zs k && (decide (k = 0) || stayS q s l zs (k - 1))
def tickTo (q s fr b : Int) (l : List Stp) (zs : List Int) (k : Nat) : Bool := (List.range k).all (tickS q s fr b l zs)
def winTo (fr b : Int) (l : List Stp) (zs : List Int) (k : Nat) : Bool := (List.range k).all (winS fr b l zs)
def stayTo (q s : Int) (l : List Stp) (zs : List Int) (k : Nat) : Bool := (List.range k).all (stayS q s l zs)
/-- A flight keeps to a path. -/
def lawB (q s fr b : Int) (l : List Stp) (zs : List Int) : Bool := pathB q s fr b l && decide (zs.length = l.length + 1) && tickTo q s fr b l zs (l.length + 1)

theorem ticks_parts (q s fr b : Int) (l : List Stp) (zs : List Int) (n : Nat) : (winTo fr b l zs (n + 1) && stayTo q s l zs n) = tickTo q s fr b l zs (n + 1) := by
  rw [Bool.eq_iff_iff]
  simp only [winTo, stayTo, tickTo, Bool.and_eq_true, List.all_eq_true, List.mem_range]
  constructor
  · rintro ⟨h1, h2⟩ i hi
    unfold tickS
    rw [h1 i hi]
    cases i with
    | zero => rfl
    | succ m =>
      have k := h2 m (by omega)
      simp only [Nat.add_sub_cancel]
      rw [k]; simp
  · intro h
    refine ⟨fun i hi => (Bool.and_eq_true_iff.1 (h i hi)).1, fun i hi => ?_⟩
    have := (Bool.and_eq_true_iff.1 (h (i + 1) (by omega))).2
    simpa using this

/-- Of a path that is ok: its windows lie between 0 and 10000. -/
theorem bounds_ok {q s fr b : Int} {l : List Stp} (h : pathB q s fr b l = true) (k : Nat) : 0 ≤ lowB fr l k ∧ highB b l k ≤ 10000 := by
  simp only [pathB, Bool.and_eq_true, decide_eq_true_eq] at h
  obtain ⟨⟨⟨⟨_, _⟩, h3⟩, h4⟩, h5⟩ := h
  have h3' := (inB_iff _ _ _).1 h3
  unfold lowB highB
  by_cases hk : k < l.length
  · rw [if_pos hk, if_pos hk]
    simp only [goodTo, List.all_eq_true, List.mem_range] at h5
    have := (Bool.and_eq_true_iff.1 (h5 k hk)).1
    simp only [stepB, decide_eq_true_eq] at this
    omega
  · rw [if_neg hk, if_neg hk]
    omega
theorem win_range {q s fr b : Int} {l : List Stp} {zs : List Int} {k : Nat} (h : pathB q s fr b l = true) (hw : winS fr b l zs k = true) : 0 ≤ zs.getD k 0 ∧ zs.getD k 0 ≤ 10000 := by
  have h1 := bounds_ok h k
  have h2 := (inB_iff _ _ _).1 hw
  omega
theorem path_len {q s fr b : Int} {l : List Stp} (h : pathB q s fr b l = true) : 1 ≤ l.length ∧ l.length ≤ 40 := by
  simp only [pathB, Bool.and_eq_true, decide_eq_true_eq] at h
  have := (inB_iff _ _ _).1 h.1.1.1.2
  omega
theorem tickTo_zero (q s fr b : Int) (l : List Stp) (zs : List Int) : tickTo q s fr b l zs 0 = true := rfl
theorem tickTo_succ {q s fr b : Int} {l : List Stp} {zs : List Int} {k : Nat} (h : tickTo q s fr b l zs k = true) : tickTo q s fr b l zs (k + 1) = tickS q s fr b l zs k := by
  unfold tickTo at *; rw [all_succ, h]; simp
theorem tickTo_win {q s fr b : Int} {l : List Stp} {zs : List Int} {k i : Nat} (h : tickTo q s fr b l zs k = true) (hi : i < k) : winS fr b l zs i = true := by
  simp only [tickTo, List.all_eq_true, List.mem_range] at h
  exact (Bool.and_eq_true_iff.1 (h i hi)).1
theorem tickTo_not {q s fr b : Int} {l : List Stp} {zs : List Int} {k n : Nat} (hk : k < n) (h : tickS q s fr b l zs k = false) : tickTo q s fr b l zs n = false := all_not hk h
end Go.Proofs.Ytfjlbgegjjdflaa

namespace Go.Proofs.Ytfjlbgegjjdflaa
open Go.RowKit

def mxB (a b : Int) : Int := if b < a then a else b
def mnB (a b : Int) : Int := if a < b then a else b
theorem mxB_le (a b : Int) : a ≤ mxB a b ∧ b ≤ mxB a b ∧ (mxB a b = a ∨ mxB a b = b) := by unfold mxB; split <;> omega
theorem mnB_le (a b : Int) : mnB a b ≤ a ∧ mnB a b ≤ b ∧ (mnB a b = a ∨ mnB a b = b) := by unfold mnB; split <;> omega

/-- Forward: the least and the greatest k-th tick, by the ticks ahead of it. -/
def fwdS (q s fr b : Int) (l : List Stp) : Nat → Int × Int
  | 0 => (lowB fr l 0, highB b l 0)
  | k + 1 => (mxB (lowB fr l (k + 1)) ((fwdS q s fr b l k).1 + q), mnB (highB b l (k + 1)) ((fwdS q s fr b l k).2 + mostB s l k))
/-- Back: j ticks ahead of the last one. -/
def bwdS (q s fr b : Int) (l : List Stp) (n : Nat) : Nat → Int × Int
  | 0 => fwdS q s fr b l n
  | j + 1 => (mxB (fwdS q s fr b l (n - (j + 1))).1 ((bwdS q s fr b l n j).1 - mostB s l (n - (j + 1))), mnB (fwdS q s fr b l (n - (j + 1))).2 ((bwdS q s fr b l n j).2 - q))
def someB (x : Int × Int) : Bool := decide (x.1 ≤ x.2)
def fwdTo (q s fr b : Int) (l : List Stp) (k : Nat) : Bool := (List.range k).all fun i => someB (fwdS q s fr b l i)
def bwdTo (q s fr b : Int) (l : List Stp) (n k : Nat) : Bool := (List.range k).all fun i => someB (bwdS q s fr b l n i)
/-- There is a flight along the path. -/
def spanB (q s fr b : Int) (l : List Stp) : Bool := fwdTo q s fr b l (l.length + 1) && bwdTo q s fr b l l.length (l.length + 1)
/-- The spans. -/
def spansL (q s fr b : Int) (l : List Stp) : List (Int × Int) := if spanB q s fr b l then (List.range (l.length + 1)).map fun k => bwdS q s fr b l l.length (l.length - k) else []

abbrev spanC (x : Int × Int) : List Value := [.int .i64 x.1, .int .i64 x.2]
/-- The cells of a list of spans. -/
def spanCells (xs : List (Int × Int)) : List Value := xs.flatMap spanC
theorem spanCells_snoc (xs : List (Int × Int)) (x : Int × Int) : spanCells (xs ++ [x]) = spanCells xs ++ spanC x := by simp [spanCells]
theorem spanCells_length (xs : List (Int × Int)) : (spanCells xs).length = xs.length * 2 := by
  induction xs with
  | nil => rfl
  | cons x xs ih => simp only [spanCells, List.flatMap_cons, List.length_append] at *; rw [ih]; simp; omega
theorem spanCells_get (xs : List (Int × Int)) : ∀ (i : Nat) (x : Int × Int), xs[i]? = some x → (spanCells xs)[i * 2]? = some (.int .i64 x.1) ∧ (spanCells xs)[i * 2 + 1]? = some (.int .i64 x.2) := by
  induction xs with
  | nil => intro i x h; simp at h
  | cons y ys ih =>
    intro i x h
    cases i with
    | zero => simp at h; subst h; simp [spanCells]
    | succ m =>
      simp at h
      obtain ⟨h1, h2⟩ := ih m x h
      have e : spanCells (y :: ys) = .int .i64 y.1 :: .int .i64 y.2 :: spanCells ys := by simp [spanCells]
      rw [e]
      refine ⟨?_, ?_⟩
      · rw [show (m + 1) * 2 = m * 2 + 1 + 1 by omega]; simpa using h1
      · rw [show (m + 1) * 2 + 1 = (m * 2 + 1) + 1 + 1 by omega]; simpa using h2

/-- The first k spans, forward. -/
def fwdL (q s fr b : Int) (l : List Stp) (k : Nat) : List (Int × Int) := (List.range k).map (fwdS q s fr b l)
theorem fwdL_succ (q s fr b : Int) (l : List Stp) (k : Nat) : fwdL q s fr b l (k + 1) = fwdL q s fr b l k ++ [fwdS q s fr b l k] := by simp [fwdL, List.range_succ]
theorem fwdL_length (q s fr b : Int) (l : List Stp) (k : Nat) : (fwdL q s fr b l k).length = k := by simp [fwdL]
theorem fwdL_get (q s fr b : Int) (l : List Stp) (k i : Nat) (h : i < k) : (fwdL q s fr b l k)[i]? = some (fwdS q s fr b l i) := by simp [fwdL, h]

theorem fwd_range {q s fr b : Int} {l : List Stp} (h : pathB q s fr b l = true) (k : Nat) : 0 ≤ (fwdS q s fr b l k).1 ∧ (fwdS q s fr b l k).2 ≤ 10000 := by
  have hb := bounds_ok h k
  cases k with
  | zero => exact hb
  | succ m =>
    have h1 := mxB_le (lowB fr l (m + 1)) ((fwdS q s fr b l m).1 + q)
    have h2 := mnB_le (highB b l (m + 1)) ((fwdS q s fr b l m).2 + mostB s l m)
    simp only [fwdS]
    omega
theorem kind_range {q s fr b : Int} {l : List Stp} (h : pathB q s fr b l = true) : 1 ≤ q ∧ q ≤ s ∧ s ≤ 50 := by
  simp only [pathB, Bool.and_eq_true, decide_eq_true_eq, kindB] at h
  exact h.1.1.1.1
theorem most_range {q s fr b : Int} {l : List Stp} (h : pathB q s fr b l = true) (k : Nat) : 1 ≤ mostB s l k ∧ mostB s l k ≤ 10000 := by
  have := kind_range h
  unfold mostB; split <;> omega
theorem fwdTo_at {q s fr b : Int} {l : List Stp} {k i : Nat} (h : fwdTo q s fr b l k = true) (hi : i < k) : (fwdS q s fr b l i).1 ≤ (fwdS q s fr b l i).2 := by
  simp only [fwdTo, List.all_eq_true, List.mem_range, someB, decide_eq_true_eq] at h
  exact h i hi
theorem fwdTo_succ {q s fr b : Int} {l : List Stp} {k : Nat} (h : fwdTo q s fr b l k = true) : fwdTo q s fr b l (k + 1) = someB (fwdS q s fr b l k) := by
  unfold fwdTo at *; rw [all_succ, h]; simp
theorem fwdTo_not {q s fr b : Int} {l : List Stp} {k n : Nat} (hk : k < n) (h : someB (fwdS q s fr b l k) = false) : fwdTo q s fr b l n = false := all_not hk h
end Go.Proofs.Ytfjlbgegjjdflaa

namespace Go.Proofs.Ytfjlbgegjjdflaa
open Go.RowKit

theorem in_any (n a b : Int) (w : World) :
    Calls Try.prog 41 #[.int .i64 n, .int .i64 a, .int .i64 b] w fun e w' => e = .returned (.bool (inB n a b)) ∧ w' = w := by
  by_cases h1 : a ≤ n
  · by_cases h2 : n ≤ b
    · go_enter Try.func41, Try.ntmps41
      go_wp2
      go_ret
      exact ⟨by simp [inB, h1, h2], rfl⟩
    · have h2' : decide (n ≤ b) = false := by simpa using h2
      go_enter Try.func41, Try.ntmps41
      go_wp2
      go_ret
      exact ⟨by simp [inB, h2'], rfl⟩
  · have h1' : decide (a ≤ n) = false := by simpa using h1
    go_enter Try.func41, Try.ntmps41
    go_wp2
    go_ret
    exact ⟨by simp [inB, h1'], rfl⟩

theorem stepOkS_any (x y lo hi fr b : Int) (ho : Bool) (w : World) :
    Calls Try.prog 49 #[.agg #[.int .i64 x, .int .i64 y, .int .i64 lo, .int .i64 hi, .int .i64 fr, .int .i64 b, .bool ho]] w fun e w' => e = .returned (.bool (stepB x y lo hi fr b)) ∧ Below w.heap.size w w' := by
  have hb := (Below.refl w.heap.size w).alloc (Nat.le_refl _) (.cells #[.int .i64 x, .int .i64 y, .int .i64 lo, .int .i64 hi, .int .i64 fr, .int .i64 b, .bool ho] 65)
  have er : stepB x y lo hi fr b = (inB x 0 15 && inB y 0 15 && inB lo 0 hi && decide (hi ≤ 6) && inB fr 0 b && decide (b ≤ 10000)) := by
    rw [Bool.eq_iff_iff]; simp [stepB, inB]; omega
  have ER : Hid (stepB x y lo hi fr b = (inB x 0 15 && inB y 0 15 && inB lo 0 hi && decide (hi ≤ 6) && inB fr 0 b && decide (b ≤ 10000))) := er
  clear er
  rcases Bool.eq_false_or_eq_true (inB x 0 15) with h1 | h1
  rcases Bool.eq_false_or_eq_true (inB y 0 15) with h2 | h2
  rcases Bool.eq_false_or_eq_true (inB lo 0 hi) with h3 | h3
  rcases Bool.eq_false_or_eq_true (decide (hi ≤ 6)) with h4 | h4
  rcases Bool.eq_false_or_eq_true (inB fr 0 b) with h5 | h5
  all_goals
    go_enter Try.func49, Try.ntmps49
    go_wp2_with (go_at_call 41; refine (in_any _ _ _ _).mono ?_; rintro e w' ⟨rfl, rfl⟩)
    go_ret
    exact ⟨by rw [ER.out]; simp [*], hb⟩

theorem folN (x y lo hi x' y' lo' hi' : Int) : folB x y lo hi x' y' lo' hi' = (((x != x') || (y != y')) && inB (wrap64 (x - x')) (-1) 1 && inB (wrap64 (y - y')) (-1) 1 && levB lo hi lo' hi') := by
  unfold folB bne; cases (x == x') <;> cases (y == y') <;> rfl

set_option maxHeartbeats 1000000 in
theorem nextS_any (x y lo hi fr b x' y' lo' hi' fr' b' : Int) (ho ho' : Bool) (w : World) :
    Calls Try.prog 50 #[.agg #[.int .i64 x, .int .i64 y, .int .i64 lo, .int .i64 hi, .int .i64 fr, .int .i64 b, .bool ho], .agg #[.int .i64 x', .int .i64 y', .int .i64 lo', .int .i64 hi', .int .i64 fr', .int .i64 b', .bool ho']] w
      fun e w' => e = .returned (.bool (folB x y lo hi x' y' lo' hi')) ∧ Below w.heap.size w w' := by
  have hb : ∀ c1 c2 : Array Value, Below w.heap.size w ((w.alloc (.cells c1 65)).alloc (.cells c2 65)) := fun c1 c2 => ((Below.refl w.heap.size w).alloc (Nat.le_refl _) _).alloc (by simp) _
  rcases Bool.eq_false_or_eq_true (inB (wrap64 (x - x')) (-1) 1) with h3 | h3
  rcases Bool.eq_false_or_eq_true (inB (wrap64 (y - y')) (-1) 1) with h4 | h4
  rcases (show ((x != x') = false ∧ (y != y') = false) ∨ ((x != x') = false ∧ (y != y') = true) ∨ (x != x') = true by cases (x != x') <;> cases (y != y') <;> simp) with ⟨h1, h2⟩ | ⟨h1, h2⟩ | h1
  rotate_left
  rcases Bool.eq_false_or_eq_true (decide (lo ≤ hi')) with h5 | h5
  rotate_left 2
  rcases Bool.eq_false_or_eq_true (decide (lo ≤ hi')) with h5 | h5
  all_goals
    go_enter Try.func50, Try.ntmps50
    go_wp2_with (go_at_call 41; refine (in_any _ _ _ _).mono ?_; rintro e w' ⟨rfl, rfl⟩)
    go_ret
    exact ⟨by rw [folN]; simp [levB, *], hb _ _⟩

theorem in_val (n a b : Int) (v : Bool) (w : World) (hv : inB n a b = v) :
    Calls Try.prog 41 #[.int .i64 n, .int .i64 a, .int .i64 b] w fun e w' => e = .returned (.bool v) ∧ w' = w := by
  rw [← hv]; exact in_any n a b w
end Go.Proofs.Ytfjlbgegjjdflaa

namespace Go.Proofs.Ytfjlbgegjjdflaa
open Go.RowKit

/-- The worlds in which all that lay in w lies as it lay. -/
structure Cls (w : World) where
  it : World
  same : Below w.heap.size w it

theorem Cls.any (w : World) : Nonempty (Cls w) := ⟨⟨w, Below.refl _ _⟩⟩

/-- One walk of the lexical order serves every order, where the operations only read and the callees lay new blocks at most. -/
theorem wp_region_cls {P : Program} {id : Nat} {Q : Exit → Act → World → Prop} {a : Act} {w : World} {l : List Oper} (hm : P.follows .mixedOrders = true) (hB : Region.lexB .any l.toArray = true)
    (h : wpQuiet P l.toArray (fun w' => ∃ u : Cls w, w' = u.it) (fun a' => ∀ w', (∃ u : Cls w, w' = u.it) → Q .normal a' w') l a) : (Code.region id l.toArray true).wp P Q a w :=
  wp_region_quiet (C := fun w' => ∃ u : Cls w, w' = u.it) hm hB ⟨⟨{ w with drawn := w.drawn + 1 }, (Below.refl w.heap.size w).drew⟩, rfl⟩ (by simpa using h)

/-- A callee's contract, met in a world of the class. -/
theorem Calls.cls_of {P : Program} {f : FuncId} {args : Array Value} {w : World} {u : Cls w} {v : Value}
    (h : Calls P f args u.it fun e w' => e = .returned v ∧ Below u.it.heap.size u.it w') : Calls P f args u.it fun e w'' => e = .returned v ∧ ∃ m : Cls w, w'' = m.it :=
  h.mono fun _ w' ⟨he, hb⟩ => ⟨he, ⟨w', u.same.trans (hb.mono u.same.size)⟩, rfl⟩
theorem Calls.cls_of_same {P : Program} {f : FuncId} {args : Array Value} {w : World} {u : Cls w} {v : Value}
    (h : Calls P f args u.it fun e w' => e = .returned v ∧ w' = u.it) : Calls P f args u.it fun e w'' => e = .returned v ∧ ∃ m : Cls w, w'' = m.it :=
  h.mono fun _ _ ⟨he, hb⟩ => ⟨he, u, hb⟩

/-- A block that lay there reads as it did. -/
theorem Cls.cell {w : World} {b : Nat} (hb : b < w.heap.size) (u : Cls w) (o : Nat) : u.it.cell? ⟨b, o, none⟩ = w.cell? ⟨b, o, none⟩ := u.same.cell (p := ⟨b, o, none⟩) hb
end Go.Proofs.Ytfjlbgegjjdflaa

namespace Go.Proofs.Ytfjlbgegjjdflaa
open Go.RowKit

theorem kindS_any (q s : Int) (w : World) :
    Calls Try.prog 48 #[.agg #[.int .i64 q, .int .i64 s]] w fun e w' => e = .returned (.bool (kindB q s)) ∧ Below w.heap.size w w' := by
  have hb := (Below.refl w.heap.size w).alloc (Nat.le_refl _) (.cells #[.int .i64 q, .int .i64 s] 24)
  have ER : Hid (kindB q s = (inB q 1 s && decide (s ≤ 50))) := by
    show _ = _
    rw [Bool.eq_iff_iff]; simp [kindB, inB]; omega
  cases hk : inB q 1 s
  all_goals
    go_enter Try.func48, Try.ntmps48
    go_wp2_with (go_at_call 41; refine (in_any _ _ _ _).mono ?_; rintro e w' ⟨rfl, rfl⟩)
    go_ret
    exact ⟨by rw [ER.out, hk]; simp, hb⟩

set_option maxHeartbeats 2000000 in
theorem pathS_no (q s fr b : Int) (a : Option Addr) (_b0 _o cap : Nat) (l : List Stp) (w : World) (_hl : l.length ≤ 1048576)
    (hno : (kindB q s && inB l.length 1 40 && inB fr 0 b && decide (b ≤ 10000)) = false) :
    Calls Try.prog 17 #[.agg #[.int .i64 q, .int .i64 s, .slice a l.length cap, .int .i64 fr, .int .i64 b]] w fun e w' => e = .returned (.bool false) ∧ Below w.heap.size w w' := by
  rcases (show kindB q s = false ∨ (kindB q s = true ∧ inB l.length 1 40 = false) ∨ (kindB q s = true ∧ inB l.length 1 40 = true ∧ inB fr 0 b = false) ∨ (kindB q s = true ∧ inB l.length 1 40 = true ∧ inB fr 0 b = true ∧ 10000 < b) by
    by_cases h : b ≤ 10000
    · revert hno; cases kindB q s <;> cases inB l.length 1 40 <;> cases inB fr 0 b <;> simp [h]
    · have h' : 10000 < b := by omega
      cases kindB q s <;> cases inB l.length 1 40 <;> cases inB fr 0 b <;> simp [h']) with h1 | ⟨h1, h2⟩ | ⟨h1, h2, h3⟩ | ⟨h1, h2, h3, h4⟩
  all_goals
    clear hno
    go_enter Try.func17, Try.ntmps17
    go_wp2_with fail
    refine (kindS_any _ _ _).mono ?_
    rintro e w1 ⟨rfl, hb1⟩
    have hb01 : Below w.heap.size w w1 := ((Below.refl w.heap.size w).alloc (Nat.le_refl _) _).trans (hb1.mono (by simp))
    have c2 : w1.cell? ⟨w.heap.size, 2, none⟩ = some (.slice a l.length cap) := by rw [hb1.cell (p := ⟨w.heap.size, 2, none⟩) (by simp)]; simp [go_sem]
    have c3 : w1.cell? ⟨w.heap.size, 3, none⟩ = some (.int .i64 fr) := by rw [hb1.cell (p := ⟨w.heap.size, 3, none⟩) (by simp)]; simp [go_sem]
    have c4 : w1.cell? ⟨w.heap.size, 4, none⟩ = some (.int .i64 b) := by rw [hb1.cell (p := ⟨w.heap.size, 4, none⟩) (by simp)]; simp [go_sem]
    clear hb1
    go_wp2_with (go_at_call 41; refine (in_any _ _ _ _).mono ?_; rintro e w' ⟨rfl, rfl⟩)
    go_ret
    exact ⟨rfl, hb01⟩

theorem stepOkS_val (x y lo hi fr b : Int) (ho v : Bool) (w : World) (hv : stepB x y lo hi fr b = v) :
    Calls Try.prog 49 #[.agg #[.int .i64 x, .int .i64 y, .int .i64 lo, .int .i64 hi, .int .i64 fr, .int .i64 b, .bool ho]] w fun e w' => e = .returned (.bool v) ∧ Below w.heap.size w w' := by
  rw [← hv]; exact stepOkS_any x y lo hi fr b ho w

theorem nextS_val (x y lo hi fr b x' y' lo' hi' fr' b' : Int) (ho ho' v : Bool) (w : World) (hv : folB x y lo hi x' y' lo' hi' = v) :
    Calls Try.prog 50 #[.agg #[.int .i64 x, .int .i64 y, .int .i64 lo, .int .i64 hi, .int .i64 fr, .int .i64 b, .bool ho], .agg #[.int .i64 x', .int .i64 y', .int .i64 lo', .int .i64 hi', .int .i64 fr', .int .i64 b', .bool ho']] w
      fun e w' => e = .returned (.bool v) ∧ Below w.heap.size w w' := by
  rw [← hv]; exact nextS_any x y lo hi fr b x' y' lo' hi' fr' b' ho ho' w

set_option maxHeartbeats 4000000 in
theorem pathS_yes (q s fr b : Int) (a : Option Addr) (b0 o cap : Nat) (l : List Stp) (w : World) (hs : StepsAt w a b0 o l)
    (h1 : kindB q s = true) (h2 : inB l.length 1 40 = true) (h3 : inB fr 0 b = true) (h4 : b ≤ 10000) :
    Calls Try.prog 17 #[.agg #[.int .i64 q, .int .i64 s, .slice a l.length cap, .int .i64 fr, .int .i64 b]] w fun e w' => e = .returned (.bool (goodTo l l.length)) ∧ Below w.heap.size w w' := by
  have hn := (inB_iff _ _ _).1 h2
  go_enter Try.func17, Try.ntmps17
  go_wp2_with fail
  refine (kindS_any _ _ _).mono ?_
  rintro e w1 ⟨rfl, hb1⟩
  have hb01 : Below w.heap.size w w1 := ((Below.refl w.heap.size w).alloc (Nat.le_refl _) _).trans (hb1.mono (by simp))
  have hz : w.heap.size < w1.heap.size := by have := hb1.size; simp at this; omega
  have c2 : w1.cell? ⟨w.heap.size, 2, none⟩ = some (.slice a l.length cap) := by rw [hb1.cell (p := ⟨w.heap.size, 2, none⟩) (by simp)]; simp [go_sem]
  have c3 : w1.cell? ⟨w.heap.size, 3, none⟩ = some (.int .i64 fr) := by rw [hb1.cell (p := ⟨w.heap.size, 3, none⟩) (by simp)]; simp [go_sem]
  have c4 : w1.cell? ⟨w.heap.size, 4, none⟩ = some (.int .i64 b) := by rw [hb1.cell (p := ⟨w.heap.size, 4, none⟩) (by simp)]; simp [go_sem]
  clear hb1
  go_wp2_with (go_at_call 41; refine (in_any _ _ _ _).mono ?_; rintro e w' ⟨rfl, rfl⟩)
  clear c3 c4
  go_loopw [3] (fun v wr => ∃ k : Nat, k ≤ l.length ∧ v = .int .i64 k ∧ Below w.heap.size w wr ∧ w.heap.size < wr.heap.size ∧ wr.cell? ⟨w.heap.size, 2, none⟩ = some (.slice a l.length cap) ∧ goodTo l k = true) (fun v _ => l.length - (intOf v).toNat)
  case atStart => exact ⟨0, Nat.zero_le _, rfl, hb01, hz, c2, goodTo_zero l⟩
  case round =>
    clear hb01 hz c2 h1 h2 h3
    obtain ⟨k, hk, rfl, hb, hz, c2, hgood⟩ := hrel
    have HG : Hid (goodTo l k = true) := hgood
    clear hgood
    by_cases hlt : k < l.length
    · obtain ⟨t, htk⟩ : ∃ t, l[k]? = some t := ⟨l[k], List.getElem?_eq_getElem hlt⟩
      have hne : l ≠ [] := by intro e; subst e; simp at hlt
      obtain rfl := hs.here hne
      have hbw := hs.lt hne
      have hbx : b0 < wr.heap.size := Nat.lt_of_lt_of_le hbw hb.size
      obtain ⟨d0, d1, d2, d3, d4, d5, d6⟩ := (hs.below hb (fun _ => hbw)).seven htk
      have k0 : (0 : Int) ≤ (k : Int) := by omega
      have k1 : (k : Int) < (l.length : Int) := by omega
      have HT : Hid (l.getD k .zero = t) := by show _ = _; simp [List.getD, htk]
      have HS := (hs.below hb (fun _ => hbw))
      clear htk
      cases hok : stepB t.x t.y t.lo t.hi t.fr t.by_ with
      | false =>
        go_wp2
        have qn := Cls.any wr
        have q0 := Cls.cell hbx
        have q1 := Cls.cell hz
        refine wp_region_cls (by kernel_rfl) (by kernel_rfl) ?_
        repeat (go_big_quiet_step ((go_at_call 49; exact Calls.cls_of (stepOkS_val _ _ _ _ _ _ _ _ _ hok))))
        refine wpQuiet_nil ?_
        rintro _ ⟨u, rfl⟩
        go_wp2
        go_ret
        exact ⟨by rw [goodTo_not hlt (goodS_bad HT.out hok)]; rfl, hb.trans (u.same.mono hb.size)⟩
      | true =>
        have qn := Cls.any wr
        have q0 := Cls.cell hbx
        have q1 := Cls.cell hz
        rcases Nat.eq_zero_or_pos k with hk0 | hk0
        · have G1 : Hid (goodTo l (k + 1) = true) := by
            show _ = _
            subst hk0; rw [goodTo_succ, HG.out, goodS_first HT.out hok]; rfl
          subst hk0
          clear hk k0
          simp only [Nat.zero_mul, Nat.add_zero] at d0 d1 d2 d3 d4 d5 d6
          go_wp2
          refine wp_region_cls (by kernel_rfl) (by kernel_rfl) ?_
          repeat (go_big_quiet_step ((go_at_call 49; exact Calls.cls_of (stepOkS_val _ _ _ _ _ _ _ _ _ hok))))
          refine wpQuiet_nil ?_
          rintro _ ⟨u, rfl⟩
          go_wp2
          go_roundw
          case rel => exact ⟨0 + 1, by omega, by go_num, hb.trans (u.same.mono hb.size), Nat.lt_of_lt_of_le hz u.same.size, by rw [q1 u]; exact c2, G1.out⟩
          case measure => simp [intOf]; omega
        · obtain ⟨p, hpk⟩ : ∃ p, l[k - 1]? = some p := ⟨l[k - 1], List.getElem?_eq_getElem (by omega)⟩
          have HP : Hid (l.getD (k - 1) .zero = p) := by show _ = _; simp [List.getD, hpk]
          obtain ⟨m, rfl⟩ : ∃ m, k = m + 1 := ⟨k - 1, by omega⟩
          simp only [Nat.add_sub_cancel] at hpk HP
          obtain ⟨g0, g1, g2, g3, g4, g5, g6⟩ := HS.seven hpk
          clear hpk HS hk0
          cases hfo : folB p.x p.y p.lo p.hi t.x t.y t.lo t.hi with
          | false =>
            have G1 : Hid (goodTo l l.length = false) := by
              show _ = _
              exact goodTo_not hlt (goodS_next HT.out HP.out hok hfo)
            go_wp2
            refine wp_region_cls (by kernel_rfl) (by kernel_rfl) ?_
            repeat (go_big_quiet_step (first | (go_at_call 49; exact Calls.cls_of (stepOkS_val _ _ _ _ _ _ _ _ _ hok)) | (go_at_call 50; exact Calls.cls_of (nextS_val _ _ _ _ _ _ _ _ _ _ _ _ _ _ _ _ hfo))))
            refine wpQuiet_nil ?_
            rintro _ ⟨u, rfl⟩
            go_wp2
            go_ret
            exact ⟨by rw [G1.out]; rfl, hb.trans (u.same.mono hb.size)⟩
          | true =>
            have G1 : Hid (goodTo l (m + 1 + 1) = true) := by
              show _ = _
              rw [goodTo_succ, HG.out, goodS_next HT.out HP.out hok hfo]; rfl
            go_wp2
            refine wp_region_cls (by kernel_rfl) (by kernel_rfl) ?_
            repeat (go_big_quiet_step (first | (go_at_call 49; exact Calls.cls_of (stepOkS_val _ _ _ _ _ _ _ _ _ hok)) | (go_at_call 50; exact Calls.cls_of (nextS_val _ _ _ _ _ _ _ _ _ _ _ _ _ _ _ _ hfo))))
            refine wpQuiet_nil ?_
            rintro _ ⟨u, rfl⟩
            go_wp2
            go_roundw
            case rel => exact ⟨m + 1 + 1, by omega, by go_num, hb.trans (u.same.mono hb.size), Nat.lt_of_lt_of_le hz u.same.size, by rw [q1 u]; exact c2, G1.out⟩
            case measure => simp [intOf]; omega
    · obtain rfl : k = l.length := by omega
      go_wp2
      go_ret
      exact ⟨by rw [HG.out]; rfl, hb⟩

theorem pathS_any (q s fr b : Int) (a : Option Addr) (b0 o cap : Nat) (l : List Stp) (w : World) (hl : l.length ≤ 1048576) (hs : StepsAt w a b0 o l) :
    Calls Try.prog 17 #[.agg #[.int .i64 q, .int .i64 s, .slice a l.length cap, .int .i64 fr, .int .i64 b]] w fun e w' => e = .returned (.bool (pathB q s fr b l)) ∧ Below w.heap.size w w' := by
  cases h : (kindB q s && inB l.length 1 40 && inB fr 0 b && decide (b ≤ 10000)) with
  | false =>
    have e1 : pathB q s fr b l = false := by unfold pathB; rw [h]; rfl
    rw [e1]
    exact pathS_no q s fr b a b0 o cap l w hl h
  | true =>
    have e1 : pathB q s fr b l = goodTo l l.length := by unfold pathB; rw [h]; rfl
    rw [e1]
    simp only [Bool.and_eq_true, decide_eq_true_eq] at h
    exact pathS_yes q s fr b a b0 o cap l w hs h.1.1.1 h.1.1.2 h.1.2 h.2
end Go.Proofs.Ytfjlbgegjjdflaa

namespace Go.Proofs.Ytfjlbgegjjdflaa
open Go.RowKit

/-- The numbers zs lie in block b from offset o on. -/
structure IntsAt (w : World) (a : Option Addr) (b o : Nat) (zs : List Int) : Prop where
  here : zs ≠ [] → a = some ⟨b, o, none⟩
  lt : zs ≠ [] → b < w.heap.size
  cell : ∀ (i : Nat) (z : Int), zs[i]? = some z → w.cell? ⟨b, o + i, none⟩ = some (.int .i64 z)

theorem IntsAt.below {w w' : World} {a : Option Addr} {b o B : Nat} {zs : List Int} (h : IntsAt w a b o zs) (hb : Below B w w') (hB : zs ≠ [] → b < B) : IntsAt w' a b o zs where
  here := h.here
  lt hl := Nat.lt_of_lt_of_le (h.lt hl) hb.size
  cell i z hi := by
    have hne : zs ≠ [] := by intro e; subst e; simp at hi
    rw [hb.cell (p := ⟨b, o + i, none⟩) (hB hne)]
    exact h.cell i z hi
theorem IntsAt.alloc {w : World} {a : Option Addr} {b o : Nat} {zs : List Int} (h : IntsAt w a b o zs) (ob : Obj) : IntsAt (w.alloc ob) a b o zs :=
  h.below ((Below.refl w.heap.size w).alloc (Nat.le_refl _) ob) h.lt

theorem int_info : (Try.prog.info? 3).map (fun i => (i.zero, i.size, i.bytes)) = some (some (.int .i64 0), 1, 8) := by kernel_rfl
end Go.Proofs.Ytfjlbgegjjdflaa

namespace Go.Proofs.Ytfjlbgegjjdflaa
open Go.RowKit

theorem low_any (q s fr b : Int) (a : Option Addr) (b0 o cap : Nat) (l : List Stp) (k : Nat) (w : World) (hl : l.length ≤ 1048576) (hs : StepsAt w a b0 o l) :
    Calls Try.prog 42 #[.agg #[.int .i64 q, .int .i64 s, .slice a l.length cap, .int .i64 fr, .int .i64 b], .int .i64 (k : Int)] w fun e w' => e = .returned (.int .i64 (lowB fr l k)) ∧ Below w.heap.size w w' := by
  have hb := (Below.refl w.heap.size w).alloc (Nat.le_refl _) (.cells #[.int .i64 q, .int .i64 s, .slice a l.length cap, .int .i64 fr, .int .i64 b] 27)
  by_cases hlt : k < l.length
  · obtain ⟨t, htk⟩ : ∃ t, l[k]? = some t := ⟨l[k], List.getElem?_eq_getElem hlt⟩
    have hne : l ≠ [] := by intro e; subst e; simp at hlt
    obtain rfl := hs.here hne
    have hbw := hs.lt hne
    obtain ⟨_, _, _, _, d4, _, _⟩ := (hs.alloc (.cells #[.int .i64 q, .int .i64 s, .slice (some ⟨b0, o, none⟩) l.length cap, .int .i64 fr, .int .i64 b] 27)).seven htk
    have HE : Hid (lowB fr l k = t.fr) := by show _ = _; unfold lowB; rw [if_pos hlt]; simp [List.getD, htk]
    clear htk
    go_enter Try.func42, Try.ntmps42
    go_wp2
    go_ret
    exact ⟨by rw [HE.out]; rfl, hb⟩
  · have HE : Hid (lowB fr l k = fr) := by show _ = _; unfold lowB; rw [if_neg hlt]
    go_enter Try.func42, Try.ntmps42
    go_wp2
    go_ret
    exact ⟨by rw [HE.out]; rfl, hb⟩

theorem high_any (q s fr b : Int) (a : Option Addr) (b0 o cap : Nat) (l : List Stp) (k : Nat) (w : World) (hl : l.length ≤ 1048576) (hs : StepsAt w a b0 o l) :
    Calls Try.prog 43 #[.agg #[.int .i64 q, .int .i64 s, .slice a l.length cap, .int .i64 fr, .int .i64 b], .int .i64 (k : Int)] w fun e w' => e = .returned (.int .i64 (highB b l k)) ∧ Below w.heap.size w w' := by
  have hb := (Below.refl w.heap.size w).alloc (Nat.le_refl _) (.cells #[.int .i64 q, .int .i64 s, .slice a l.length cap, .int .i64 fr, .int .i64 b] 27)
  by_cases hlt : k < l.length
  · obtain ⟨t, htk⟩ : ∃ t, l[k]? = some t := ⟨l[k], List.getElem?_eq_getElem hlt⟩
    have hne : l ≠ [] := by intro e; subst e; simp at hlt
    obtain rfl := hs.here hne
    have hbw := hs.lt hne
    obtain ⟨_, _, _, _, _, d5, _⟩ := (hs.alloc (.cells #[.int .i64 q, .int .i64 s, .slice (some ⟨b0, o, none⟩) l.length cap, .int .i64 fr, .int .i64 b] 27)).seven htk
    have HE : Hid (highB b l k = t.by_) := by show _ = _; unfold highB; rw [if_pos hlt]; simp [List.getD, htk]
    clear htk
    go_enter Try.func43, Try.ntmps43
    go_wp2
    go_ret
    exact ⟨by rw [HE.out]; rfl, hb⟩
  · have HE : Hid (highB b l k = b) := by show _ = _; unfold highB; rw [if_neg hlt]
    go_enter Try.func43, Try.ntmps43
    go_wp2
    go_ret
    exact ⟨by rw [HE.out]; rfl, hb⟩

theorem most_any (q s fr b : Int) (a : Option Addr) (b0 o cap : Nat) (l : List Stp) (k : Nat) (w : World) (hl : l.length ≤ 1048576) (hs : StepsAt w a b0 o l) (hlt : k < l.length) :
    Calls Try.prog 44 #[.agg #[.int .i64 q, .int .i64 s, .slice a l.length cap, .int .i64 fr, .int .i64 b], .int .i64 (k : Int)] w fun e w' => e = .returned (.int .i64 (mostB s l k)) ∧ Below w.heap.size w w' := by
  have hb := (Below.refl w.heap.size w).alloc (Nat.le_refl _) (.cells #[.int .i64 q, .int .i64 s, .slice a l.length cap, .int .i64 fr, .int .i64 b] 27)
  obtain ⟨t, htk⟩ : ∃ t, l[k]? = some t := ⟨l[k], List.getElem?_eq_getElem hlt⟩
  have hne : l ≠ [] := by intro e; subst e; simp at hlt
  obtain rfl := hs.here hne
  have hbw := hs.lt hne
  obtain ⟨_, _, _, _, _, _, d6⟩ := (hs.alloc (.cells #[.int .i64 q, .int .i64 s, .slice (some ⟨b0, o, none⟩) l.length cap, .int .i64 fr, .int .i64 b] 27)).seven htk
  have HE : Hid (mostB s l k = if t.ho then 10000 else s) := by show _ = _; unfold mostB; simp [List.getD, htk]
  clear htk
  cases hho : t.ho with
  | true =>
    have HF : Hid (mostB s l k = 10000) := by show _ = _; rw [HE.out, hho]; rfl
    rw [hho] at d6
    go_enter Try.func44, Try.ntmps44
    go_wp2
    go_ret
    exact ⟨by rw [HF.out]; rfl, hb⟩
  | false =>
    have HF : Hid (mostB s l k = s) := by show _ = _; rw [HE.out, hho]; rfl
    rw [hho] at d6
    go_enter Try.func44, Try.ntmps44
    go_wp2
    go_ret
    exact ⟨by rw [HF.out]; rfl, hb⟩
end Go.Proofs.Ytfjlbgegjjdflaa

namespace Go.Proofs.Ytfjlbgegjjdflaa
open Go.RowKit

/-- The box that holds the path. -/
structure BoxP (w wr : World) (q s fr b : Int) (v : Value) : Prop where
  old : Below w.heap.size w wr
  lt : w.heap.size < wr.heap.size
  p0 : wr.cell? ⟨w.heap.size, 0, none⟩ = some (.int .i64 q)
  p1 : wr.cell? ⟨w.heap.size, 1, none⟩ = some (.int .i64 s)
  p2 : wr.cell? ⟨w.heap.size, 2, none⟩ = some v
  p3 : wr.cell? ⟨w.heap.size, 3, none⟩ = some (.int .i64 fr)
  p4 : wr.cell? ⟨w.heap.size, 4, none⟩ = some (.int .i64 b)
theorem BoxP.below {w wr w2 : World} {q s fr b : Int} {v : Value} (h : BoxP w wr q s fr b v) (hb : Below wr.heap.size wr w2) : BoxP w w2 q s fr b v := by
  have c0 : ∀ j, w2.cell? ⟨w.heap.size, j, none⟩ = wr.cell? ⟨w.heap.size, j, none⟩ := fun j => hb.cell (p := ⟨w.heap.size, j, none⟩) h.lt
  exact ⟨h.old.trans (hb.mono (Nat.le_of_lt h.lt)), Nat.lt_of_lt_of_le h.lt hb.size, (c0 _).trans h.p0, (c0 _).trans h.p1, (c0 _).trans h.p2, (c0 _).trans h.p3, (c0 _).trans h.p4⟩
theorem BoxP.keep {w wr w2 : World} {q s fr b : Int} {v : Value} (h : BoxP w wr q s fr b v) (hb : Below (w.heap.size + 1) wr w2) : BoxP w w2 q s fr b v := by
  have c0 : ∀ j, w2.cell? ⟨w.heap.size, j, none⟩ = wr.cell? ⟨w.heap.size, j, none⟩ := fun j => hb.cell (p := ⟨w.heap.size, j, none⟩) (Nat.lt_succ_self _)
  exact ⟨h.old.trans (hb.mono (by omega)), Nat.lt_of_lt_of_le h.lt hb.size, (c0 _).trans h.p0, (c0 _).trans h.p1, (c0 _).trans h.p2, (c0 _).trans h.p3, (c0 _).trans h.p4⟩
theorem BoxP.new (w : World) (q s fr b : Int) (v : Value) (t : TypeId) : BoxP w (w.alloc (.cells #[.int .i64 q, .int .i64 s, v, .int .i64 fr, .int .i64 b] t)) q s fr b v :=
  ⟨(Below.refl _ _).alloc (Nat.le_refl _) _, by simp, by simp [go_sem], by simp [go_sem], by simp [go_sem], by simp [go_sem], by simp [go_sem]⟩
end Go.Proofs.Ytfjlbgegjjdflaa
