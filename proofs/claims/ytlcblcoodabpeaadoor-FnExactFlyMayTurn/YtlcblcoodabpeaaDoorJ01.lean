/- Joined texts: Data, Data2, LawData, SpanData, SpanMath, StepInfo, OwnMore, SpanBack, BoxP, PathKit, PathAns, RestData, CloneS, Cls, SpanLeaf, ILeaf, Impl, ImplPath. -/
import Derived.WalkKit
import Derived.Deep.MidRow
import Derived.WalkSpells
import Derived.Maps.AppendAt
import Derived.BigQuiet
import Derived.Deep.RegionHeld3
import Derived.Test.YtlcblcoodabpeaaDoorRows
namespace Go.Proofs.YtlcblcoodabpeaaDoor
open Go.RowKit

/-- A step, as numbers. -/
structure Stp where
  x : Int
  y : Int
  lo : Int
  hi : Int
  fr : Int
  by_ : Int
  ho : Bool

/-- Its cells. -/
abbrev Stp.cells (s : Stp) : List Value := [.int .i64 s.x, .int .i64 s.y, .int .i64 s.lo, .int .i64 s.hi, .int .i64 s.fr, .int .i64 s.by_, .bool s.ho]
/-- It as a value. -/
abbrev Stp.val (s : Stp) : Value := .agg #[.int .i64 s.x, .int .i64 s.y, .int .i64 s.lo, .int .i64 s.hi, .int .i64 s.fr, .int .i64 s.by_, .bool s.ho]
/-- The step of zeros. -/
def Stp.zero : Stp := ⟨0, 0, 0, 0, 0, 0, false⟩

/-- n is between a and b. -/
def inB (n a b : Int) : Bool := decide (a ≤ n) && decide (n ≤ b)
theorem inB_iff (n a b : Int) : inB n a b = true ↔ a ≤ n ∧ n ≤ b := by simp [inB]

/-- Ascending, from the least to the most. -/
def ordB (a b c d : Int) : Bool := decide (a ≤ b ∧ b ≤ c ∧ c ≤ d)
/-- A kind within its bounds. -/
def kindB (q s : Int) : Bool := decide (1 ≤ q ∧ q ≤ s ∧ s ≤ 50)
/-- A step within its bounds. -/
def stepB (x y lo hi fr by_ : Int) : Bool :=
  decide (0 ≤ x ∧ x ≤ 15 ∧ 0 ≤ y ∧ y ≤ 15 ∧ 0 ≤ lo ∧ lo ≤ hi ∧ hi ≤ 6 ∧ 0 ≤ fr ∧ fr ≤ by_ ∧ by_ ≤ 10000)
/-- Of two steps that are within their bounds: the second can stand behind the first. -/
def nextB (x y lo hi x' y' lo' hi' : Int) : Bool :=
  decide (-1 ≤ x - x' ∧ x - x' ≤ 1 ∧ -1 ≤ y - y' ∧ y - y' ≤ 1 ∧ (x ≠ x' ∨ y ≠ y') ∧ lo ≤ hi' ∧ lo' ≤ hi)

/-- A level in common. -/
def levB (lo hi lo' hi' : Int) : Bool := decide (lo ≤ hi') && decide (lo' ≤ hi)
/-- As the program asks it. -/
def folB (x y lo hi x' y' lo' hi' : Int) : Bool := !((x == x') && (y == y')) && inB (wrap64 (x - x')) (-1) 1 && inB (wrap64 (y - y')) (-1) 1 && levB lo hi lo' hi'

def Stp.okB (s : Stp) : Bool := stepB s.x s.y s.lo s.hi s.fr s.by_
def Stp.nextB (s t : Stp) : Bool := Go.Proofs.YtlcblcoodabpeaaDoor.nextB s.x s.y s.lo s.hi t.x t.y t.lo t.hi

/-- The cells of a list of steps lie in block b from offset o on, seven each. -/
structure StepsAt (w : World) (a : Option Addr) (b o : Nat) (l : List Stp) : Prop where
  here : l ≠ [] → a = some ⟨b, o, none⟩
  lt : l ≠ [] → b < w.heap.size
  cell : ∀ (i : Nat) (s : Stp), l[i]? = some s → w.rangeAt b (o + i * 7) s.cells

theorem StepsAt.below {w w' : World} {a : Option Addr} {b o B : Nat} {l : List Stp} (h : StepsAt w a b o l) (hb : Below B w w') (hB : l ≠ [] → b < B) : StepsAt w' a b o l where
  here := h.here
  lt hl := Nat.lt_of_lt_of_le (h.lt hl) hb.size
  cell i s hi j v hv := by
    have hne : l ≠ [] := by intro e; subst e; simp at hi
    rw [hb.cell (p := ⟨b, o + i * 7 + j, none⟩) (hB hne)]
    exact h.cell i s hi j v hv

/-- The seven cells of the i-th step, as a walk asks for them. -/
theorem StepsAt.seven {w : World} {a : Option Addr} {b o : Nat} {l : List Stp} (h : StepsAt w a b o l) {i : Nat} {s : Stp} (hi : l[i]? = some s) :
    w.cell? ⟨b, o + i * 7, none⟩ = some (.int .i64 s.x) ∧ w.cell? ⟨b, o + i * 7 + 1, none⟩ = some (.int .i64 s.y) ∧ w.cell? ⟨b, o + i * 7 + 2, none⟩ = some (.int .i64 s.lo) ∧ w.cell? ⟨b, o + i * 7 + 3, none⟩ = some (.int .i64 s.hi) ∧
    w.cell? ⟨b, o + i * 7 + 4, none⟩ = some (.int .i64 s.fr) ∧ w.cell? ⟨b, o + i * 7 + 5, none⟩ = some (.int .i64 s.by_) ∧ w.cell? ⟨b, o + i * 7 + 6, none⟩ = some (.bool s.ho) := by
  have hr := h.cell i s hi
  exact ⟨hr 0 _ rfl, hr 1 _ rfl, hr 2 _ rfl, hr 3 _ rfl, hr 4 _ rfl, hr 5 _ rfl, hr 6 _ rfl⟩

theorem old_cells {W w1 : World} {B : Nat} (hb : Below B W w1) : (∀ b o, b < B → w1.cell? ⟨b, o, none⟩ = W.cell? ⟨b, o, none⟩) ∧ (∀ b o, b < B → w1.frozen? ⟨b, o, none⟩ = W.frozen? ⟨b, o, none⟩) :=
  ⟨fun b o h => hb.cell (p := ⟨b, o, none⟩) h, fun b o h => hb.frozen (p := ⟨b, o, none⟩) h⟩

theorem Stp.one (s : Stp) : (#[Value.int .i64 s.x, .int .i64 s.y, .int .i64 s.lo, .int .i64 s.hi, .int .i64 s.fr, .int .i64 s.by_, .bool s.ho].all (·.oneCell')) = true := by
  simp [Value.oneCell']

theorem there_of_block {w : World} {b : Nat} {C : Array Value} {t : TypeId} (hb : w.heap[b]? = some (.cells C t (0, 0))) (o n : Nat) (h : o + n ≤ C.size) : w.there b o n := fun j hj =>
  ⟨by rw [cell_of_row w b (o + j) C t _ hb]; simp; omega, frozen_of_row w b _ C t hb⟩

theorem there_below {w w' : World} {B b o n : Nat} (h : w.there b o n) (hb : Below B w w') (hB : b < B) : w'.there b o n := fun j hj =>
  ⟨by rw [hb.cell (p := ⟨b, o + j, none⟩) hB]; exact (h j hj).1, by rw [hb.frozen (p := ⟨b, o + j, none⟩) hB]; exact (h j hj).2⟩

theorem range_below {w w' : World} {B b o : Nat} {cs : List Value} (h : w.rangeAt b o cs) (hb : Below B w w') (hB : b < B) : w'.rangeAt b o cs := fun j v hv => by
  rw [hb.cell (p := ⟨b, o + j, none⟩) hB]; exact h j v hv

theorem below_setCells {B b : Nat} (hB : B ≤ b) : ∀ (vs : List Value) (o : Nat) (a w : World), Below B a w → Below B a (w.setCells b o vs)
  | [], _, _, _, h => h
  | v :: r, o, a, w, h => by
    rw [World.setCells]
    exact below_setCells hB r (o + 1) a _ (h.setCell (p := ⟨b, o, none⟩) hB v)

theorem size_setCells (b : Nat) : ∀ (vs : List Value) (o : Nat) (w : World), (w.setCells b o vs).heap.size = w.heap.size
  | [], _, _ => rfl
  | v :: r, o, w => by
    rw [World.setCells, size_setCells b r (o + 1)]
    simp [World.setCell]

theorem lt_of_there {w : World} {b o n : Nat} (h : w.there b o n) (hn : 0 < n) : b < w.heap.size := by
  obtain ⟨u, hu⟩ := Option.isSome_iff_exists.1 (h 0 hn).1
  exact World.block_lt_of_cell? w _ hu

theorem StepsAt.set {w : World} {a : Option Addr} {b o : Nat} {l : List Stp} (h : StepsAt w a b o l) {p : Addr} (hp : p.block ≠ b) (v : Value) : StepsAt (w.setCell p v) a b o l where
  here := h.here
  lt hl := by have := h.lt hl; simpa [World.setCell] using this
  cell i s hi j u hu := by
    rw [World.cell?_setCell_other _ _ _ _ (by intro e; exact hp (by rw [e]))]
    exact h.cell i s hi j u hu

theorem StepsAt.alloc {w : World} {a : Option Addr} {b o : Nat} {l : List Stp} (h : StepsAt w a b o l) (ob : Obj) : StepsAt (w.alloc ob) a b o l where
  here := h.here
  lt hl := by have := h.lt hl; simp; omega
  cell i s hi := World.rangeAt_alloc (h.cell i s hi) ob

/-- The i-th step is within its bounds, and can stand behind the one ahead of it. -/
def goodS (l : List Stp) (i : Nat) : Bool :=
  stepB (l.getD i .zero).x (l.getD i .zero).y (l.getD i .zero).lo (l.getD i .zero).hi (l.getD i .zero).fr (l.getD i .zero).by_ &&
    (decide (i = 0) || folB (l.getD (i - 1) .zero).x (l.getD (i - 1) .zero).y (l.getD (i - 1) .zero).lo (l.getD (i - 1) .zero).hi (l.getD i .zero).x (l.getD i .zero).y (l.getD i .zero).lo (l.getD i .zero).hi)
/-- So are the first k. -/
def goodTo (l : List Stp) (k : Nat) : Bool := (List.range k).all (goodS l)
theorem goodTo_zero (l : List Stp) : goodTo l 0 = true := rfl
theorem goodTo_succ (l : List Stp) (k : Nat) : goodTo l (k + 1) = (goodTo l k && goodS l k) := by
  simp [goodTo, List.range_succ, List.all_append]
theorem goodTo_le {l : List Stp} {k n : Nat} (h : goodTo l n = true) (hk : k ≤ n) : goodTo l k = true := by
  simp [goodTo] at *; intro i hi; exact h i (by omega)
theorem goodTo_not {l : List Stp} {k n : Nat} (hk : k < n) (h : goodS l k = false) : goodTo l n = false := by
  cases e : goodTo l n with
  | false => rfl
  | true =>
    have := goodTo_le e (show k + 1 ≤ n by omega)
    rw [goodTo_succ, h] at this
    simp at this
/-- A path is ok. -/
def pathB (q s fr b : Int) (l : List Stp) : Bool := kindB q s && inB l.length 1 40 && inB fr 0 b && decide (b ≤ 10000) && goodTo l l.length

theorem goodS_bad {l : List Stp} {k : Nat} {t : Stp} (ht : l.getD k .zero = t) (h : stepB t.x t.y t.lo t.hi t.fr t.by_ = false) : goodS l k = false := by
  unfold goodS; rw [ht, h]; rfl
theorem goodS_first {l : List Stp} {t : Stp} (ht : l.getD 0 .zero = t) (h : stepB t.x t.y t.lo t.hi t.fr t.by_ = true) : goodS l 0 = true := by
  unfold goodS; rw [ht, h]; rfl
theorem goodS_next {l : List Stp} {m : Nat} {p t : Stp} {v : Bool} (ht : l.getD (m + 1) .zero = t) (hp : l.getD m .zero = p) (h : stepB t.x t.y t.lo t.hi t.fr t.by_ = true)
    (hf : folB p.x p.y p.lo p.hi t.x t.y t.lo t.hi = v) : goodS l (m + 1) = v := by
  unfold goodS; rw [Nat.add_sub_cancel, ht, hp, h, hf]; simp
/-- What is left of a measure behind n more. -/
def leftB (left : Int) (n : Nat) : Int := if left - n < 0 then -1 else left - n
theorem leftB_left (left : Int) (n : Nat) (h0 : -1 ≤ left) (h1 : left ≤ 1048576) : -1 ≤ leftB left n ∧ leftB left n ≤ 1048576 := by
  unfold leftB; split <;> omega
end Go.Proofs.YtlcblcoodabpeaaDoor

namespace Go.Proofs.YtlcblcoodabpeaaDoor
open Go.RowKit

/-- The i-th step is within its bounds. -/
def okS (l : List Stp) (i : Nat) : Bool := stepB (l.getD i .zero).x (l.getD i .zero).y (l.getD i .zero).lo (l.getD i .zero).hi (l.getD i .zero).fr (l.getD i .zero).by_
def okTo (l : List Stp) (k : Nat) : Bool := (List.range k).all (okS l)
/-- The (i + 1)-th step follows the i-th, as the program asks it. -/
def folS (l : List Stp) (i : Nat) : Bool :=
  folB (l.getD (i + 1) .zero).x (l.getD (i + 1) .zero).y (l.getD (i + 1) .zero).lo (l.getD (i + 1) .zero).hi (l.getD i .zero).x (l.getD i .zero).y (l.getD i .zero).lo (l.getD i .zero).hi
def folTo (l : List Stp) (k : Nat) : Bool := (List.range k).all (folS l)

theorem all_succ (f : Nat → Bool) (k : Nat) : (List.range (k + 1)).all f = ((List.range k).all f && f k) := by
  simp [List.range_succ, List.all_append]
theorem all_not {f : Nat → Bool} {k n : Nat} (hk : k < n) (h : f k = false) : (List.range n).all f = false := by
  simp; exact ⟨k, hk, h⟩

theorem wrap64_small (x : Int) (h0 : -100 ≤ x) (h1 : x ≤ 100) : wrap64 x = x := by
  simp only [wrap64]; omega

theorem fol_comm {p t : Stp} (hp : stepB p.x p.y p.lo p.hi p.fr p.by_ = true) (ht : stepB t.x t.y t.lo t.hi t.fr t.by_ = true) :
    folB t.x t.y t.lo t.hi p.x p.y p.lo p.hi = folB p.x p.y p.lo p.hi t.x t.y t.lo t.hi := by
  simp only [stepB, decide_eq_true_eq] at hp ht
  unfold folB inB levB
  rw [wrap64_small (t.x - p.x) (by omega) (by omega), wrap64_small (t.y - p.y) (by omega) (by omega), wrap64_small (p.x - t.x) (by omega) (by omega), wrap64_small (p.y - t.y) (by omega) (by omega)]
  rw [Bool.eq_iff_iff]
  simp
  omega

/-- The program's five checks come to the specification's test. -/
theorem checks_path (q s fr b : Int) (l : List Stp) :
    (kindB q s && inB l.length 1 40 && okTo l l.length && folTo l (l.length - 1) && ordB 0 fr b 10000) = pathB q s fr b l := by
  have e1 : ordB 0 fr b 10000 = (inB fr 0 b && decide (b ≤ 10000)) := by rw [Bool.eq_iff_iff]; simp [ordB, inB]; omega
  have e2 : (okTo l l.length && folTo l (l.length - 1)) = goodTo l l.length := by
    rw [Bool.eq_iff_iff]
    simp only [okTo, folTo, goodTo, Bool.and_eq_true, List.all_eq_true, List.mem_range]
    constructor
    · rintro ⟨h1, h2⟩ i hi
      unfold goodS
      have k1 : stepB _ _ _ _ _ _ = true := h1 i hi
      rw [k1]
      cases i with
      | zero => rfl
      | succ m =>
        have k2 : stepB _ _ _ _ _ _ = true := h1 m (by omega)
        have k3 : folB _ _ _ _ _ _ _ _ = true := h2 m (by omega)
        rw [fol_comm k2 k1] at k3
        simp only [Nat.add_sub_cancel]
        rw [k3]; simp
    · intro h
      have h1 : ∀ i, i < l.length → okS l i = true := fun i hi => by
        have := h i hi
        unfold goodS at this
        exact (Bool.and_eq_true_iff.1 this).1
      refine ⟨h1, fun i hi => ?_⟩
      have := (Bool.and_eq_true_iff.1 (h (i + 1) (by omega))).2
      simp only [Nat.add_sub_cancel] at this
      have k0 : decide (i + 1 = 0) = false := by simp
      rw [k0, Bool.false_or] at this
      unfold folS
      rw [fol_comm (h1 i (by omega)) (h1 (i + 1) (by omega))]
      exact this
  unfold pathB
  rw [e1, ← e2]
  cases kindB q s <;> cases inB l.length 1 40 <;> cases okTo l l.length <;> cases folTo l (l.length - 1) <;> cases inB fr 0 b <;> cases decide (b ≤ 10000) <;> rfl
end Go.Proofs.YtlcblcoodabpeaaDoor

namespace Go.Proofs.YtlcblcoodabpeaaDoor
open Go.RowKit

def lowB (fr : Int) (l : List Stp) (k : Nat) : Int := if k < l.length then (l.getD k .zero).fr else fr
def highB (b : Int) (l : List Stp) (k : Nat) : Int := if k < l.length then (l.getD k .zero).by_ else b
def mostB (s : Int) (l : List Stp) (k : Nat) : Int := if (l.getD k .zero).ho then 10000 else s
/-- The k-th tick is within its window. -/
def winS (fr b : Int) (l : List Stp) (zs : List Int) (k : Nat) : Bool := inB (zs.getD k 0) (lowB fr l k) (highB b l k)
/-- From the k-th tick to the next there are as many ticks as there may be. -/
def stayS (q s : Int) (l : List Stp) (zs : List Int) (k : Nat) : Bool := inB (zs.getD (k + 1) 0 - zs.getD k 0) q (mostB s l k)
/-- As the specification asks it of the k-th tick. -/
def tickS (q s fr b : Int) (l : List Stp) (zs : List Int) (k : Nat) : Bool := winS fr b l zs k && (decide (k = 0) || stayS q s l zs (k - 1))
def tickTo (q s fr b : Int) (l : List Stp) (zs : List Int) (k : Nat) : Bool := (List.range k).all (tickS q s fr b l zs)
def winTo (fr b : Int) (l : List Stp) (zs : List Int) (k : Nat) : Bool := (List.range k).all (winS fr b l zs)
def stayTo (q s : Int) (l : List Stp) (zs : List Int) (k : Nat) : Bool := (List.range k).all (stayS q s l zs)
/-- A flight keeps to a path. -/
def lawB (q s fr b : Int) (l : List Stp) (zs : List Int) : Bool := pathB q s fr b l && decide (zs.length = l.length + 1) && tickTo q s fr b l zs (l.length + 1)

theorem ticks_parts (q s fr b : Int) (l : List Stp) (zs : List Int) (n : Nat) : (winTo fr b l zs (n + 1) && stayTo q s l zs n) = tickTo q s fr b l zs (n + 1) := by
  rw [Bool.eq_iff_iff]
  simp only [winTo, stayTo, tickTo, Bool.and_eq_true, List.all_eq_true, List.mem_range]
  constructor
  · rintro ⟨h1, h2⟩ i hi
    unfold tickS
    rw [h1 i hi]
    cases i with
    | zero => rfl
    | succ m =>
      have k := h2 m (by omega)
      simp only [Nat.add_sub_cancel]
      rw [k]; simp
  · intro h
    refine ⟨fun i hi => (Bool.and_eq_true_iff.1 (h i hi)).1, fun i hi => ?_⟩
    have := (Bool.and_eq_true_iff.1 (h (i + 1) (by omega))).2
    simpa using this

/-- Of a path that is ok: its windows lie between 0 and 10000. -/
theorem bounds_ok {q s fr b : Int} {l : List Stp} (h : pathB q s fr b l = true) (k : Nat) : 0 ≤ lowB fr l k ∧ highB b l k ≤ 10000 := by
  simp only [pathB, Bool.and_eq_true, decide_eq_true_eq] at h
  obtain ⟨⟨⟨⟨_, _⟩, h3⟩, h4⟩, h5⟩ := h
  have h3' := (inB_iff _ _ _).1 h3
  unfold lowB highB
  by_cases hk : k < l.length
  · rw [if_pos hk, if_pos hk]
    simp only [goodTo, List.all_eq_true, List.mem_range] at h5
    have := (Bool.and_eq_true_iff.1 (h5 k hk)).1
    simp only [stepB, decide_eq_true_eq] at this
    omega
  · rw [if_neg hk, if_neg hk]
    omega
theorem win_range {q s fr b : Int} {l : List Stp} {zs : List Int} {k : Nat} (h : pathB q s fr b l = true) (hw : winS fr b l zs k = true) : 0 ≤ zs.getD k 0 ∧ zs.getD k 0 ≤ 10000 := by
  have h1 := bounds_ok h k
  have h2 := (inB_iff _ _ _).1 hw
  omega
theorem path_len {q s fr b : Int} {l : List Stp} (h : pathB q s fr b l = true) : 1 ≤ l.length ∧ l.length ≤ 40 := by
  simp only [pathB, Bool.and_eq_true, decide_eq_true_eq] at h
  have := (inB_iff _ _ _).1 h.1.1.1.2
  omega
theorem tickTo_zero (q s fr b : Int) (l : List Stp) (zs : List Int) : tickTo q s fr b l zs 0 = true := rfl
theorem tickTo_succ {q s fr b : Int} {l : List Stp} {zs : List Int} {k : Nat} (h : tickTo q s fr b l zs k = true) : tickTo q s fr b l zs (k + 1) = tickS q s fr b l zs k := by
  unfold tickTo at *; rw [all_succ, h]; simp
theorem tickTo_win {q s fr b : Int} {l : List Stp} {zs : List Int} {k i : Nat} (h : tickTo q s fr b l zs k = true) (hi : i < k) : winS fr b l zs i = true := by
  simp only [tickTo, List.all_eq_true, List.mem_range] at h
  exact (Bool.and_eq_true_iff.1 (h i hi)).1
theorem tickTo_not {q s fr b : Int} {l : List Stp} {zs : List Int} {k n : Nat} (hk : k < n) (h : tickS q s fr b l zs k = false) : tickTo q s fr b l zs n = false := all_not hk h
end Go.Proofs.YtlcblcoodabpeaaDoor

namespace Go.Proofs.YtlcblcoodabpeaaDoor
open Go.RowKit

def mxB (a b : Int) : Int := if b < a then a else b
def mnB (a b : Int) : Int := if a < b then a else b
theorem mxB_le (a b : Int) : a ≤ mxB a b ∧ b ≤ mxB a b ∧ (mxB a b = a ∨ mxB a b = b) := by unfold mxB; split <;> omega
theorem mnB_le (a b : Int) : mnB a b ≤ a ∧ mnB a b ≤ b ∧ (mnB a b = a ∨ mnB a b = b) := by unfold mnB; split <;> omega

/-- Forward: the least and the greatest k-th tick, by the ticks ahead of it. -/
def fwdS (q s fr b : Int) (l : List Stp) : Nat → Int × Int
  | 0 => (lowB fr l 0, highB b l 0)
  | k + 1 => (mxB (lowB fr l (k + 1)) ((fwdS q s fr b l k).1 + q), mnB (highB b l (k + 1)) ((fwdS q s fr b l k).2 + mostB s l k))
/-- Back: j ticks ahead of the last one. -/
def bwdS (q s fr b : Int) (l : List Stp) (n : Nat) : Nat → Int × Int
  | 0 => fwdS q s fr b l n
  | j + 1 => (mxB (fwdS q s fr b l (n - (j + 1))).1 ((bwdS q s fr b l n j).1 - mostB s l (n - (j + 1))), mnB (fwdS q s fr b l (n - (j + 1))).2 ((bwdS q s fr b l n j).2 - q))
def someB (x : Int × Int) : Bool := decide (x.1 ≤ x.2)
def fwdTo (q s fr b : Int) (l : List Stp) (k : Nat) : Bool := (List.range k).all fun i => someB (fwdS q s fr b l i)
def bwdTo (q s fr b : Int) (l : List Stp) (n k : Nat) : Bool := (List.range k).all fun i => someB (bwdS q s fr b l n i)
/-- There is a flight along the path. -/
def spanB (q s fr b : Int) (l : List Stp) : Bool := fwdTo q s fr b l (l.length + 1) && bwdTo q s fr b l l.length (l.length + 1)
/-- The spans. -/
def spansL (q s fr b : Int) (l : List Stp) : List (Int × Int) := if spanB q s fr b l then (List.range (l.length + 1)).map fun k => bwdS q s fr b l l.length (l.length - k) else []

abbrev spanC (x : Int × Int) : List Value := [.int .i64 x.1, .int .i64 x.2]
/-- The cells of a list of spans. -/
def spanCells (xs : List (Int × Int)) : List Value := xs.flatMap spanC
theorem spanCells_snoc (xs : List (Int × Int)) (x : Int × Int) : spanCells (xs ++ [x]) = spanCells xs ++ spanC x := by simp [spanCells]
theorem spanCells_length (xs : List (Int × Int)) : (spanCells xs).length = xs.length * 2 := by
  induction xs with
  | nil => rfl
  | cons x xs ih => simp only [spanCells, List.flatMap_cons, List.length_append] at *; rw [ih]; simp; omega
theorem spanCells_get (xs : List (Int × Int)) : ∀ (i : Nat) (x : Int × Int), xs[i]? = some x → (spanCells xs)[i * 2]? = some (.int .i64 x.1) ∧ (spanCells xs)[i * 2 + 1]? = some (.int .i64 x.2) := by
  induction xs with
  | nil => intro i x h; simp at h
  | cons y ys ih =>
    intro i x h
    cases i with
    | zero => simp at h; subst h; simp [spanCells]
    | succ m =>
      simp at h
      obtain ⟨h1, h2⟩ := ih m x h
      have e : spanCells (y :: ys) = .int .i64 y.1 :: .int .i64 y.2 :: spanCells ys := by simp [spanCells]
      rw [e]
      refine ⟨?_, ?_⟩
      · rw [show (m + 1) * 2 = m * 2 + 1 + 1 by omega]; simpa using h1
      · rw [show (m + 1) * 2 + 1 = (m * 2 + 1) + 1 + 1 by omega]; simpa using h2

/-- The first k spans, forward. -/
def fwdL (q s fr b : Int) (l : List Stp) (k : Nat) : List (Int × Int) := (List.range k).map (fwdS q s fr b l)
theorem fwdL_succ (q s fr b : Int) (l : List Stp) (k : Nat) : fwdL q s fr b l (k + 1) = fwdL q s fr b l k ++ [fwdS q s fr b l k] := by simp [fwdL, List.range_succ]
theorem fwdL_length (q s fr b : Int) (l : List Stp) (k : Nat) : (fwdL q s fr b l k).length = k := by simp [fwdL]
theorem fwdL_get (q s fr b : Int) (l : List Stp) (k i : Nat) (h : i < k) : (fwdL q s fr b l k)[i]? = some (fwdS q s fr b l i) := by simp [fwdL, h]

theorem fwd_range {q s fr b : Int} {l : List Stp} (h : pathB q s fr b l = true) (k : Nat) : 0 ≤ (fwdS q s fr b l k).1 ∧ (fwdS q s fr b l k).2 ≤ 10000 := by
  have hb := bounds_ok h k
  cases k with
  | zero => exact hb
  | succ m =>
    have h1 := mxB_le (lowB fr l (m + 1)) ((fwdS q s fr b l m).1 + q)
    have h2 := mnB_le (highB b l (m + 1)) ((fwdS q s fr b l m).2 + mostB s l m)
    simp only [fwdS]
    omega
theorem kind_range {q s fr b : Int} {l : List Stp} (h : pathB q s fr b l = true) : 1 ≤ q ∧ q ≤ s ∧ s ≤ 50 := by
  simp only [pathB, Bool.and_eq_true, decide_eq_true_eq, kindB] at h
  exact h.1.1.1.1
theorem most_range {q s fr b : Int} {l : List Stp} (h : pathB q s fr b l = true) (k : Nat) : 1 ≤ mostB s l k ∧ mostB s l k ≤ 10000 := by
  have := kind_range h
  unfold mostB; split <;> omega
theorem fwdTo_at {q s fr b : Int} {l : List Stp} {k i : Nat} (h : fwdTo q s fr b l k = true) (hi : i < k) : (fwdS q s fr b l i).1 ≤ (fwdS q s fr b l i).2 := by
  simp only [fwdTo, List.all_eq_true, List.mem_range, someB, decide_eq_true_eq] at h
  exact h i hi
theorem fwdTo_succ {q s fr b : Int} {l : List Stp} {k : Nat} (h : fwdTo q s fr b l k = true) : fwdTo q s fr b l (k + 1) = someB (fwdS q s fr b l k) := by
  unfold fwdTo at *; rw [all_succ, h]; simp
theorem fwdTo_not {q s fr b : Int} {l : List Stp} {k n : Nat} (hk : k < n) (h : someB (fwdS q s fr b l k) = false) : fwdTo q s fr b l n = false := all_not hk h
end Go.Proofs.YtlcblcoodabpeaaDoor

namespace Go.Proofs.YtlcblcoodabpeaaDoor
open Go.RowKit

theorem most_quick {q s fr b : Int} {l : List Stp} (h : pathB q s fr b l = true) (k : Nat) : q ≤ mostB s l k := by
  have := kind_range h
  unfold mostB; split <;> omega

theorem bwd_in {q s fr b : Int} {l : List Stp} (hp : pathB q s fr b l = true) {n : Nat} (hf : fwdTo q s fr b l (n + 1) = true) : ∀ j, j ≤ n →
    (bwdS q s fr b l n j).1 ≤ (bwdS q s fr b l n j).2 ∧ (fwdS q s fr b l (n - j)).1 ≤ (bwdS q s fr b l n j).1 ∧ (bwdS q s fr b l n j).2 ≤ (fwdS q s fr b l (n - j)).2
  | 0, _ => by
    have := fwdTo_at hf (show n < n + 1 by omega)
    exact ⟨this, Int.le_refl _, Int.le_refl _⟩
  | j + 1, hj => by
    obtain ⟨h1, h2, h3⟩ := bwd_in hp hf j (by omega)
    obtain ⟨k, hk⟩ : ∃ k, n - (j + 1) = k ∧ n - j = k + 1 := ⟨n - (j + 1), rfl, by omega⟩
    rw [hk.2] at h2 h3
    have h0 := fwdTo_at hf (show k < n + 1 by omega)
    have hm := most_quick hp k
    simp only [fwdS] at h2 h3
    have m1 := mxB_le (lowB fr l (k + 1)) ((fwdS q s fr b l k).1 + q)
    have m2 := mnB_le (highB b l (k + 1)) ((fwdS q s fr b l k).2 + mostB s l k)
    simp only [bwdS]
    rw [hk.1]
    have m3 := mxB_le (fwdS q s fr b l k).1 ((bwdS q s fr b l n j).1 - mostB s l k)
    have m4 := mnB_le (fwdS q s fr b l k).2 ((bwdS q s fr b l n j).2 - q)
    refine ⟨?_, ?_, ?_⟩ <;> omega

theorem bwd_all {q s fr b : Int} {l : List Stp} (hp : pathB q s fr b l = true) {n : Nat} (hf : fwdTo q s fr b l (n + 1) = true) {k : Nat} (hk : k ≤ n + 1) : bwdTo q s fr b l n k = true := by
  unfold bwdTo
  rw [List.all_eq_true]
  intro i hi
  have := (bwd_in hp hf i (by have := List.mem_range.1 hi; omega)).1
  simpa [someB] using this

theorem span_fwd {q s fr b : Int} {l : List Stp} (hp : pathB q s fr b l = true) : spanB q s fr b l = fwdTo q s fr b l (l.length + 1) := by
  unfold spanB
  cases h : fwdTo q s fr b l (l.length + 1) with
  | false => rfl
  | true => rw [bwd_all hp h (Nat.le_refl _)]; rfl

/-- Windows within the ticks that there are: of a path that is ok, or of one that is ok but for its windows. -/
structure Wide (q s fr b : Int) (l : List Stp) : Prop where
  kind : 1 ≤ q ∧ q ≤ s ∧ s ≤ 50
  len : 1 ≤ l.length ∧ l.length ≤ 40
  win : ∀ k, 0 ≤ lowB fr l k ∧ highB b l k ≤ 10000
theorem Wide.of {q s fr b : Int} {l : List Stp} (h : pathB q s fr b l = true) : Wide q s fr b l := ⟨kind_range h, path_len h, bounds_ok h⟩
theorem Wide.fwd_range {q s fr b : Int} {l : List Stp} (h : Wide q s fr b l) (k : Nat) : 0 ≤ (fwdS q s fr b l k).1 ∧ (fwdS q s fr b l k).2 ≤ 10000 := by
  have hb := h.win k
  cases k with
  | zero => exact hb
  | succ m =>
    have h1 := mxB_le (lowB fr l (m + 1)) ((fwdS q s fr b l m).1 + q)
    have h2 := mnB_le (highB b l (m + 1)) ((fwdS q s fr b l m).2 + mostB s l m)
    simp only [fwdS]
    omega
theorem Wide.most_range {q s fr b : Int} {l : List Stp} (h : Wide q s fr b l) (k : Nat) : 1 ≤ mostB s l k ∧ mostB s l k ≤ 10000 := by
  have := h.kind
  unfold mostB; split <;> omega
theorem Wide.quick {q s fr b : Int} {l : List Stp} (h : Wide q s fr b l) (k : Nat) : q ≤ mostB s l k := by
  have := h.kind
  unfold mostB; split <;> omega
theorem Wide.bwd_in {q s fr b : Int} {l : List Stp} (hp : Wide q s fr b l) {n : Nat} (hf : fwdTo q s fr b l (n + 1) = true) : ∀ j, j ≤ n →
    (bwdS q s fr b l n j).1 ≤ (bwdS q s fr b l n j).2 ∧ (fwdS q s fr b l (n - j)).1 ≤ (bwdS q s fr b l n j).1 ∧ (bwdS q s fr b l n j).2 ≤ (fwdS q s fr b l (n - j)).2
  | 0, _ => by
    have := fwdTo_at hf (show n < n + 1 by omega)
    exact ⟨this, Int.le_refl _, Int.le_refl _⟩
  | j + 1, hj => by
    obtain ⟨h1, h2, h3⟩ := hp.bwd_in hf j (by omega)
    obtain ⟨k, hk⟩ : ∃ k, n - (j + 1) = k ∧ n - j = k + 1 := ⟨n - (j + 1), rfl, by omega⟩
    rw [hk.2] at h2 h3
    have h0 := fwdTo_at hf (show k < n + 1 by omega)
    have hm := hp.quick k
    simp only [fwdS] at h2 h3
    have m1 := mxB_le (lowB fr l (k + 1)) ((fwdS q s fr b l k).1 + q)
    have m2 := mnB_le (highB b l (k + 1)) ((fwdS q s fr b l k).2 + mostB s l k)
    simp only [bwdS]
    rw [hk.1]
    have m3 := mxB_le (fwdS q s fr b l k).1 ((bwdS q s fr b l n j).1 - mostB s l k)
    have m4 := mnB_le (fwdS q s fr b l k).2 ((bwdS q s fr b l n j).2 - q)
    refine ⟨?_, ?_, ?_⟩ <;> omega
theorem Wide.span_fwd {q s fr b : Int} {l : List Stp} (hp : Wide q s fr b l) : spanB q s fr b l = fwdTo q s fr b l (l.length + 1) := by
  unfold spanB
  cases h : fwdTo q s fr b l (l.length + 1) with
  | false => rfl
  | true =>
    have : bwdTo q s fr b l l.length (l.length + 1) = true := by
      unfold bwdTo
      rw [List.all_eq_true]
      intro i hi
      have := (hp.bwd_in h i (by have := List.mem_range.1 hi; omega)).1
      simpa [someB] using this
    rw [this]; rfl

/-- What FlySpans tells. -/
def flyL (q s fr b : Int) (l : List Stp) : List (Int × Int) := if pathB q s fr b l then spansL q s fr b l else []
def flyB (q s fr b : Int) (l : List Stp) : Bool := pathB q s fr b l && spanB q s fr b l
end Go.Proofs.YtlcblcoodabpeaaDoor

namespace Go.Proofs.YtlcblcoodabpeaaDoor
open Go.RowKit

theorem step_info : (Tryd.prog.info? 50).map (fun i => (i.zero, i.size, i.bytes)) = some (some (.agg #[.int .i64 0, .int .i64 0, .int .i64 0, .int .i64 0, .int .i64 0, .int .i64 0, .bool false]), 7, 56) := by kernel_rfl

theorem step_size7 : (Tryd.prog.info? 50).map (·.size) = some 7 := by kernel_rfl
theorem step_size (s : Stp) : (Tryd.prog.info? 50).map (·.size) = some (Array.size #[Value.int .i64 s.x, .int .i64 s.y, .int .i64 s.lo, .int .i64 s.hi, .int .i64 s.fr, .int .i64 s.by_, .bool s.ho]) := step_size7
/-- A step stored whole. -/
theorem store_step {ops : Array Oper} {rest : List Oper} {op : Oper} {a : Act} {w : World} {Q : Exit → Act → World → Prop} (hgd : op.guard = none) (x y : Operand) (ho : op.op = .store 50 x y)
    (b o : Nat) (s : Stp) (hx : a.eval x = .pointer (some ⟨b, o, none⟩)) (hy : a.eval y = .agg #[.int .i64 s.x, .int .i64 s.y, .int .i64 s.lo, .int .i64 s.hi, .int .i64 s.fr, .int .i64 s.by_, .bool s.ho])
    (ht : w.there b o 7) (h : wpList Tryd.prog ops Q rest (a.put op.dst undef) (w.setCells b o s.cells)) : wpList Tryd.prog ops Q (op :: rest) a w :=
  wpList_store_mid hgd 50 x y ho b o _ hx hy ht (step_size s) s.one h
end Go.Proofs.YtlcblcoodabpeaaDoor

namespace Go.Proofs.YtlcblcoodabpeaaDoor
open Go.RowKit

theorem blk2 {w : World} {B : Nat} {x y : Value} {t : TypeId} (h : w.heap[B]? = some (.cells #[x, y] t (0, 0))) : w.cell? ⟨B, 0, none⟩ = some x ∧ w.cell? ⟨B, 1, none⟩ = some y ∧ ∀ j, w.frozen? ⟨B, j, none⟩ = false :=
  ⟨by rw [cell_of_row w B 0 _ _ _ h]; rfl, by rw [cell_of_row w B 1 _ _ _ h]; rfl, fun j => frozen_of_row w B j _ _ h⟩
theorem blk2_after {W w' : World} {x y : Value} {t : TypeId} (hb : Below (W.alloc (.cells #[x, y] t)).heap.size (W.alloc (.cells #[x, y] t)) w') : w'.heap[W.heap.size]? = some (.cells #[x, y] t (0, 0)) :=
  (hb.block W.heap.size (by simp)).trans (heap_alloc_new W _)
theorem blk2_after_drew {W w' : World} {x y : Value} {t : TypeId} (hb : Below (W.alloc (.cells #[x, y] t)).drew.heap.size (W.alloc (.cells #[x, y] t)).drew w') : w'.heap[W.heap.size]? = some (.cells #[x, y] t (0, 0)) :=
  blk2_after ⟨hb.os, hb.tape, hb.output, hb.size, hb.block⟩
theorem blk2_after2 {W w' : World} {x y : Value} {t : TypeId} (hb : Below ((W.alloc (.cells #[x, y] t)).alloc (.cells #[x, y] t)).heap.size ((W.alloc (.cells #[x, y] t)).alloc (.cells #[x, y] t)) w') :
    w'.heap[W.heap.size]? = some (.cells #[x, y] t (0, 0)) ∧ w'.heap[W.heap.size + 1]? = some (.cells #[x, y] t (0, 0)) := by
  refine ⟨(hb.block W.heap.size (by simp; omega)).trans ((Below.heap_alloc _ _ _ (by simp)).trans (heap_alloc_new W _)), ?_⟩
  have h := blk2_after hb
  rwa [World.size_alloc] at h
theorem blk2_kept {W w' : World} {B : Nat} {x y : Value} {t : TypeId} (h : W.heap[B]? = some (.cells #[x, y] t (0, 0))) (hb : Below W.heap.size W w') : w'.heap[B]? = some (.cells #[x, y] t (0, 0)) :=
  (hb.block B (lt_of_block h)).trans h
theorem blk2_set0 {w : World} {B : Nat} {x y : Value} {t : TypeId} (h : w.heap[B]? = some (.cells #[x, y] t (0, 0))) (u : Value) : (w.setCell ⟨B, 0, none⟩ u).heap[B]? = some (.cells #[u, y] t (0, 0)) := by
  rw [heap_setCell_same w B 0 _ _ _ h]; rfl
theorem blk2_set1 {w : World} {B : Nat} {x y : Value} {t : TypeId} (h : w.heap[B]? = some (.cells #[x, y] t (0, 0))) (u : Value) : (w.setCell ⟨B, 1, none⟩ u).heap[B]? = some (.cells #[x, u] t (0, 0)) := by
  rw [heap_setCell_same w B 1 _ _ _ h]; rfl

theorem owns_base {w : World} {base e size n : Nat} {v : Value} {xs : List Value} (h : w.ownsRow base e size v n xs) : ∀ k, v.ownBlock = some k → base ≤ k := by
  intro k hk
  rcases h.2 with ⟨rfl, _⟩ | ⟨g, cap, cur, rfl, hg, _⟩
  · simp [Value.ownBlock] at hk
  · simp [Value.ownBlock] at hk; omega
theorem owns_empty {w : World} {base e size : Nat} (hb : base ≤ w.heap.size) : (w.alloc (.cells #[] e)).ownsRow base e size (.slice (some ⟨w.heap.size, 0, none⟩) 0 0) 0 [] := by
  have h := World.ownsRow_lit (base := base) (e := e) (size := size) w #[] 0 hb (by unfold maxLen; omega) (by simp)
  exact h
theorem two_new (w : World) (x y : Value) (t : TypeId) : ∀ (j : Nat) (u : Value), [x, y][j]? = some u → (w.alloc (.cells #[x, y] t)).cell? ((⟨w.heap.size, 0, none⟩ : Addr).add j) = some u := by
  intro j u hj
  match j, hj with
  | 0, hj => simp at hj; subst hj; simp [Addr.add, go_sem]
  | 1, hj => simp at hj; subst hj; simp [Addr.add, go_sem]
theorem owns_below {w w' : World} {base e size n : Nat} {v : Value} {xs : List Value} (h : w.ownsRow base e size v n xs) (hb : Below w.heap.size w w') : w'.ownsRow base e size v n xs :=
  ⟨h.1, h.2.imp id fun ⟨g, cap, cur, h1, h2, h3, h4⟩ => ⟨g, cap, cur, h1, h2, (hb.block g (lt_of_block h3)).trans h3, h4⟩⟩
theorem owns_set {w : World} {base e size n : Nat} {v : Value} {xs : List Value} (h : w.ownsRow base e size v n xs) {B : Nat} (hB : ∀ k, v.ownBlock = some k → k ≠ B) (j : Nat) (u : Value) : (w.setCell ⟨B, j, none⟩ u).ownsRow base e size v n xs :=
  ⟨h.1, h.2.imp id fun ⟨g, cap, cur, h1, h2, h3, h4⟩ => ⟨g, cap, cur, h1, h2, by rw [heap_setCell_other w ⟨B, j, none⟩ g u (hB g (by rw [h1]; rfl))]; exact h3, h4⟩⟩
theorem owns_lt {w : World} {base e size n : Nat} {v : Value} {xs : List Value} (h : w.ownsRow base e size v n xs) : ∀ k, v.ownBlock = some k → k < w.heap.size := by
  intro k hk
  rcases h.2 with ⟨rfl, _⟩ | ⟨g, cap, cur, rfl, _, h3, _⟩
  · simp [Value.ownBlock] at hk
  · simp [Value.ownBlock] at hk; subst hk; exact lt_of_block h3

/-- The slice of a row that is not empty. -/
theorem owns_some {w : World} {base e size n : Nat} {v : Value} {xs : List Value} (h : w.ownsRow base e size v n xs) (hn : 0 < n) : ∃ g cap, v = .slice (some ⟨g, 0, none⟩) n cap ∧ base ≤ g ∧ g < w.heap.size := by
  rcases h.2 with ⟨_, h0⟩ | ⟨g, cap, cur, rfl, hg, hh, _⟩
  · omega
  · exact ⟨g, cap, rfl, hg, lt_of_block hh⟩
end Go.Proofs.YtlcblcoodabpeaaDoor

namespace Go.Proofs.YtlcblcoodabpeaaDoor
open Go.RowKit

/-- The row when j ticks ahead of the last one are done. -/
def backL (q s fr b : Int) (l : List Stp) (n j : Nat) : List (Int × Int) := (List.range (n + 1)).map fun i => if n - j ≤ i then bwdS q s fr b l n (n - i) else fwdS q s fr b l i

theorem backL_length (q s fr b : Int) (l : List Stp) (n j : Nat) : (backL q s fr b l n j).length = n + 1 := by simp [backL]
theorem backL_get (q s fr b : Int) (l : List Stp) (n j i : Nat) (h : i < n + 1) : (backL q s fr b l n j)[i]? = some (if n - j ≤ i then bwdS q s fr b l n (n - i) else fwdS q s fr b l i) := by simp [backL, h]
theorem backL_zero (q s fr b : Int) (l : List Stp) (n : Nat) : backL q s fr b l n 0 = fwdL q s fr b l (n + 1) := by
  unfold backL fwdL
  apply List.map_congr_left
  intro i hi
  have hi' := List.mem_range.1 hi
  by_cases h : n - 0 ≤ i
  · have e : i = n := by omega
    rw [if_pos h, e, Nat.sub_self]; rfl
  · rw [if_neg h]
theorem backL_all {q s fr b : Int} {l : List Stp} (h : spanB q s fr b l = true) : backL q s fr b l l.length l.length = spansL q s fr b l := by
  unfold backL spansL
  rw [if_pos h]
  apply List.map_congr_left
  intro i _
  rw [if_pos (by omega)]
theorem backL_now (q s fr b : Int) (l : List Stp) (n j : Nat) (h : j < n) : (backL q s fr b l n j)[n - (j + 1)]? = some (fwdS q s fr b l (n - (j + 1))) := by
  rw [backL_get _ _ _ _ _ _ _ _ (by omega), if_neg (by omega)]
theorem backL_next (q s fr b : Int) (l : List Stp) (n j : Nat) (h : j < n) : (backL q s fr b l n j)[n - (j + 1) + 1]? = some (bwdS q s fr b l n j) := by
  rw [backL_get _ _ _ _ _ _ _ _ (by omega), if_pos (by omega)]
  congr 2
  omega
theorem backL_succ (q s fr b : Int) (l : List Stp) (n j : Nat) (h : j < n) : backL q s fr b l n (j + 1) = (backL q s fr b l n j).set (n - (j + 1)) (bwdS q s fr b l n (j + 1)) := by
  apply List.ext_getElem?
  intro i
  by_cases hi : i < n + 1
  · rw [backL_get _ _ _ _ _ _ _ _ hi]
    by_cases e : n - (j + 1) = i
    · rw [← e, List.getElem?_set_self (by rw [backL_length]; omega), if_pos (by omega)]
      congr 2
      omega
    · rw [List.getElem?_set_ne e, backL_get _ _ _ _ _ _ _ _ hi]
      by_cases h2 : n - j ≤ i
      · rw [if_pos h2, if_pos (by omega)]
      · rw [if_neg h2, if_neg (by omega)]
  · rw [List.getElem?_eq_none (by rw [backL_length]; omega), List.getElem?_eq_none (by rw [List.length_set, backL_length]; omega)]

theorem spanCells_set : ∀ (xs : List (Int × Int)) (i : Nat) (x : Int × Int), spanCells (xs.set i x) = ((spanCells xs).set (i * 2) (.int .i64 x.1)).set (i * 2 + 1) (.int .i64 x.2)
  | [], i, x => by simp [spanCells]
  | y :: ys, 0, x => by simp [spanCells]
  | y :: ys, i + 1, x => by
    have ih := spanCells_set ys i x
    have e : ∀ zs : List (Int × Int), spanCells (y :: zs) = .int .i64 y.1 :: .int .i64 y.2 :: spanCells zs := fun zs => by simp [spanCells]
    rw [List.set_cons_succ, e, e, ih, show (i + 1) * 2 = i * 2 + 1 + 1 by omega]
    simp

/-- A store into a row that a call owns. -/
theorem owns_put {w : World} {base e size n g cap : Nat} {xs : List Value} (h : w.ownsRow base e size (.slice (some ⟨g, 0, none⟩) n cap) n xs) {j : Nat} (_hj : j < n * size) (u : Value) :
    (w.setCell ⟨g, j, none⟩ u).ownsRow base e size (.slice (some ⟨g, 0, none⟩) n cap) n (xs.set j u) := by
  refine ⟨by rw [List.length_set]; exact h.1, ?_⟩
  rcases h.2 with ⟨h0, _⟩ | ⟨g', cap', cur, h1, h2, h3, h4, h5, h6, h7⟩
  · cases h0
  · simp only [Value.slice.injEq, Option.some.injEq, Addr.mk.injEq, and_true, true_and] at h1
    obtain ⟨rfl, rfl⟩ := h1
    refine Or.inr ⟨g, cap, _, rfl, h2, heap_setCell_same w g j cur e u h3, h4, h5, by rw [Array.size_setIfInBounds]; exact h6, ?_⟩
    rw [← h7, Array.toList_setIfInBounds, List.take_set]
end Go.Proofs.YtlcblcoodabpeaaDoor

namespace Go.Proofs.YtlcblcoodabpeaaDoor
open Go.RowKit

/-- The box that holds the path. -/
structure BoxP (w wr : World) (q s fr b : Int) (v : Value) : Prop where
  old : Below w.heap.size w wr
  lt : w.heap.size < wr.heap.size
  p0 : wr.cell? ⟨w.heap.size, 0, none⟩ = some (.int .i64 q)
  p1 : wr.cell? ⟨w.heap.size, 1, none⟩ = some (.int .i64 s)
  p2 : wr.cell? ⟨w.heap.size, 2, none⟩ = some v
  p3 : wr.cell? ⟨w.heap.size, 3, none⟩ = some (.int .i64 fr)
  p4 : wr.cell? ⟨w.heap.size, 4, none⟩ = some (.int .i64 b)
theorem BoxP.below {w wr w2 : World} {q s fr b : Int} {v : Value} (h : BoxP w wr q s fr b v) (hb : Below wr.heap.size wr w2) : BoxP w w2 q s fr b v := by
  have c0 : ∀ j, w2.cell? ⟨w.heap.size, j, none⟩ = wr.cell? ⟨w.heap.size, j, none⟩ := fun j => hb.cell (p := ⟨w.heap.size, j, none⟩) h.lt
  exact ⟨h.old.trans (hb.mono (Nat.le_of_lt h.lt)), Nat.lt_of_lt_of_le h.lt hb.size, (c0 _).trans h.p0, (c0 _).trans h.p1, (c0 _).trans h.p2, (c0 _).trans h.p3, (c0 _).trans h.p4⟩
theorem BoxP.keep {w wr w2 : World} {q s fr b : Int} {v : Value} (h : BoxP w wr q s fr b v) (hb : Below (w.heap.size + 1) wr w2) : BoxP w w2 q s fr b v := by
  have c0 : ∀ j, w2.cell? ⟨w.heap.size, j, none⟩ = wr.cell? ⟨w.heap.size, j, none⟩ := fun j => hb.cell (p := ⟨w.heap.size, j, none⟩) (Nat.lt_succ_self _)
  exact ⟨h.old.trans (hb.mono (by omega)), Nat.lt_of_lt_of_le h.lt hb.size, (c0 _).trans h.p0, (c0 _).trans h.p1, (c0 _).trans h.p2, (c0 _).trans h.p3, (c0 _).trans h.p4⟩
theorem BoxP.new (w : World) (q s fr b : Int) (v : Value) (t : TypeId) : BoxP w (w.alloc (.cells #[.int .i64 q, .int .i64 s, v, .int .i64 fr, .int .i64 b] t)) q s fr b v :=
  ⟨(Below.refl _ _).alloc (Nat.le_refl _) _, by simp, by simp [go_sem], by simp [go_sem], by simp [go_sem], by simp [go_sem], by simp [go_sem]⟩
end Go.Proofs.YtlcblcoodabpeaaDoor

namespace Go.Proofs.YtlcblcoodabpeaaDoor
open Go.RowKit

/-- The cells of a list of steps. -/
def stepCells (l : List Stp) : List Value := l.flatMap Stp.cells
theorem stepCells_cons (t : Stp) (l : List Stp) : stepCells (t :: l) = t.cells ++ stepCells l := by simp [stepCells]
theorem stepCells_length (l : List Stp) : (stepCells l).length = l.length * 7 := by
  induction l with
  | nil => rfl
  | cons t l ih => rw [stepCells_cons, List.length_append, ih]; simp; omega
theorem stepCells_at : ∀ (l : List Stp) (i : Nat) (t : Stp) (j : Nat), l[i]? = some t → j < 7 → (stepCells l)[i * 7 + j]? = t.cells[j]?
  | [], i, t, j, h, _ => by simp at h
  | y :: ys, 0, t, j, h, hj => by
    simp at h
    subst h
    rw [stepCells_cons, List.getElem?_append_left (by simp; omega)]
    simp
  | y :: ys, i + 1, t, j, h, hj => by
    rw [stepCells_cons, List.getElem?_append_right (by simp; omega)]
    have ih := stepCells_at ys i t j (by simpa using h) hj
    rw [← ih]
    congr 1
    simp
    omega
theorem stepCells_one (l : List Stp) : ∀ u ∈ stepCells l, u.oneCell' = true := by
  intro u hu
  simp only [stepCells, List.mem_flatMap] at hu
  obtain ⟨t, _, h⟩ := hu
  simp at h
  rcases h with rfl | rfl | rfl | rfl | rfl | rfl | rfl <;> rfl
theorem steps_news {w : World} {b o : Nat} {l : List Stp} {a : Option Addr} (h : StepsAt w a b o l) : ∀ j u, (stepCells l)[j]? = some u → w.cell? ((⟨b, o, none⟩ : Addr).add j) = some u := by
  intro j u hj
  have hlt : j < l.length * 7 := by rw [← stepCells_length]; exact (List.getElem?_eq_some_iff.1 hj).1
  obtain ⟨i, r, hr, rfl⟩ : ∃ i r, r < 7 ∧ j = i * 7 + r := ⟨j / 7, j % 7, Nat.mod_lt _ (by decide), by omega⟩
  obtain ⟨t, ht⟩ : ∃ t, l[i]? = some t := ⟨l[i], List.getElem?_eq_getElem (by omega)⟩
  rw [stepCells_at l i t r ht hr] at hj
  have := h.cell i t ht r u hj
  rw [Addr.add_mid, ← Nat.add_assoc]
  exact this
theorem steps_owned {w : World} {base e n g cap : Nat} {l : List Stp} (h : w.ownsRow base e 7 (.slice (some ⟨g, 0, none⟩) n cap) n (stepCells l)) : StepsAt w (some ⟨g, 0, none⟩) g 0 l where
  here _ := rfl
  lt _ := (h.lt g rfl).2
  cell i t ht j u hu := by
    have hj : j < 7 := (List.getElem?_eq_some_iff.1 hu).1
    have hn : l.length * 7 = n * 7 := by rw [← stepCells_length]; exact h.1
    have hi : i < l.length := (List.getElem?_eq_some_iff.1 ht).1
    have := (h.cellAt (i * 7 + j) (by omega)).trans (stepCells_at l i t j ht hj)
    rw [Nat.zero_add]
    exact this.trans hu

theorem stopAt {p : Prop} (h : Hid p) : p := h.out

theorem stepCells_set : ∀ (l : List Stp) (i : Nat) (t u : Stp), l[i]? = some t → u = { t with fr := u.fr, by_ := u.by_ } → stepCells (l.set i u) = ((stepCells l).set (i * 7 + 4) (.int .i64 u.fr)).set (i * 7 + 5) (.int .i64 u.by_)
  | [], i, t, u, h, _ => by simp at h
  | y :: ys, 0, t, u, h, he => by
    simp at h
    subst h
    rw [List.set_cons_zero, stepCells_cons, stepCells_cons]
    have e1 : u.x = y.x := by rw [he]
    have e2 : u.y = y.y := by rw [he]
    have e3 : u.lo = y.lo := by rw [he]
    have e4 : u.hi = y.hi := by rw [he]
    have e5 : u.ho = y.ho := by rw [he]
    simp [e1, e2, e3, e4, e5]
  | y :: ys, i + 1, t, u, h, he => by
    have ih := stepCells_set ys i t u (by simpa using h) he
    rw [List.set_cons_succ, stepCells_cons, stepCells_cons, ih, show (i + 1) * 7 + 4 = i * 7 + 4 + 7 by omega, show (i + 1) * 7 + 5 = i * 7 + 5 + 7 by omega]
    simp

/-- A path lies in a block of its own. -/
structure PathAt (w : World) (B : Nat) (q s fr b : Int) (v : Value) : Prop where
  it : w.heap[B]? = some (.cells #[.int .i64 q, .int .i64 s, v, .int .i64 fr, .int .i64 b] 31 (0, 0))
theorem PathAt.new (w : World) (q s fr b : Int) (v : Value) : PathAt (w.alloc (.cells #[.int .i64 q, .int .i64 s, v, .int .i64 fr, .int .i64 b] 31)) w.heap.size q s fr b v := ⟨heap_alloc_new w _⟩
theorem PathAt.lt {w : World} {B : Nat} {q s fr b : Int} {v : Value} (h : PathAt w B q s fr b v) : B < w.heap.size := lt_of_block h.it
theorem PathAt.keep {w w' : World} {B N : Nat} {q s fr b : Int} {v : Value} (h : PathAt w B q s fr b v) (hb : Below N w w') (hB : B < N) : PathAt w' B q s fr b v := ⟨(hb.block B hB).trans h.it⟩
theorem PathAt.set {w : World} {B : Nat} {q s fr b : Int} {v : Value} (h : PathAt w B q s fr b v) {p : Addr} (hp : B ≠ p.block) (u : Value) : PathAt (w.setCell p u) B q s fr b v := ⟨(heap_setCell_other w p B u hp).trans h.it⟩
theorem PathAt.cells {w : World} {B : Nat} {q s fr b : Int} {v : Value} (h : PathAt w B q s fr b v) : (w.cell? ⟨B, 0, none⟩ = some (.int .i64 q) ∧ w.cell? ⟨B, 1, none⟩ = some (.int .i64 s) ∧ w.cell? ⟨B, 2, none⟩ = some v ∧ w.cell? ⟨B, 3, none⟩ = some (.int .i64 fr) ∧ w.cell? ⟨B, 4, none⟩ = some (.int .i64 b)) ∧ ∀ j, w.frozen? ⟨B, j, none⟩ = false := by
  have := h.it
  refine ⟨⟨?_, ?_, ?_, ?_, ?_⟩, fun j => ?_⟩ <;> simp [World.cell?, World.frozen?, this]

/-- The cells of a result that is a path, not yet written. -/
structure ResP (w : World) (B : Nat) : Prop where
  lt : B < w.heap.size
  it : w.heap[B]? = some (.cells #[.int .i64 0, .int .i64 0, .slice none 0 0, .int .i64 0, .int .i64 0] 31 (0, 0))
theorem ResP.new (w : World) : ResP (w.alloc (.cells #[.int .i64 0, .int .i64 0, .slice none 0 0, .int .i64 0, .int .i64 0] 31)) w.heap.size := ⟨by simp, heap_alloc_new w _⟩
theorem ResP.keep {w w' : World} {B N : Nat} (h : ResP w B) (hb : Below N w w') (hB : B < N) : ResP w' B := ⟨Nat.lt_of_lt_of_le h.lt hb.size, (hb.block B hB).trans h.it⟩
theorem ResP.set {w : World} {B : Nat} (h : ResP w B) {p : Addr} (hp : B ≠ p.block) (u : Value) : ResP (w.setCell p u) B := ⟨by simpa [World.setCell] using h.lt, (heap_setCell_other w p B u hp).trans h.it⟩
theorem ResP.cells {w : World} {B : Nat} (h : ResP w B) : (w.cell? ⟨B, 0, none⟩ = some (.int .i64 0) ∧ w.cell? ⟨B, 1, none⟩ = some (.int .i64 0) ∧ w.cell? ⟨B, 2, none⟩ = some (.slice none 0 0) ∧ w.cell? ⟨B, 3, none⟩ = some (.int .i64 0) ∧ w.cell? ⟨B, 4, none⟩ = some (.int .i64 0)) ∧ ∀ j, w.frozen? ⟨B, j, none⟩ = false := by
  have := h.it
  refine ⟨⟨?_, ?_, ?_, ?_, ?_⟩, fun j => ?_⟩ <;> simp [World.cell?, World.frozen?, this]

theorem PathAt.grown {w w' : World} {P : Nat} {q s fr b : Int} {v : Value} {row : Option Nat} (h : PathAt w P q s fr b v) (hg : w.grownBy w' row) (hne : row ≠ some P) : PathAt w' P q s fr b v := ⟨(hg.block P h.lt (fun e => hne e.symm)).trans h.it⟩
theorem owns_grown {w w' : World} {base e size n : Nat} {v : Value} {xs : List Value} {row : Option Nat} (h : w.ownsRow base e size v n xs) (hg : w.grownBy w' row) (hr : ∀ k, row = some k → k < base) : w'.ownsRow base e size v n xs :=
  ⟨h.1, h.2.imp id fun ⟨g, cap, cur, h1, h2, h3, h4⟩ => ⟨g, cap, cur, h1, h2, (hg.block g (lt_of_block h3) (fun e => by have := hr g e.symm; omega)).trans h3, h4⟩⟩

theorem stepCells_put : ∀ (l : List Stp) (i j : Nat) (t t' : Stp) (u : Value), l[i]? = some t → j < 7 → t'.cells = t.cells.set j u → (stepCells l).set (i * 7 + j) u = stepCells (l.set i t')
  | [], i, _, _, _, _, h, _, _ => by simp at h
  | y :: ys, 0, j, t, t', u, h, hj, he => by
    simp at h
    subst h
    rw [List.set_cons_zero, stepCells_cons, stepCells_cons, he, Nat.zero_mul, Nat.zero_add, List.set_append_left _ _ (by simp; omega)]
  | y :: ys, i + 1, j, t, t', u, h, hj, he => by
    have ih := stepCells_put ys i j t t' u (by simpa using h) hj he
    rw [List.set_cons_succ, stepCells_cons, stepCells_cons, ← ih, List.set_append_right _ _ (by simp; omega)]
    congr 2
    simp
    omega

/-- A row is not a path's block. -/
theorem row_not_path {w : World} {base n X : Nat} {v : Value} {xs : List Value} {q s fr b : Int} {u : Value} (ho : w.ownsRow base 50 7 v n xs) (hp : PathAt w X q s fr b u) : ∀ k, v.ownBlock = some k → k ≠ X := by
  intro k hk e
  subst e
  rcases ho.2 with ⟨rfl, _⟩ | ⟨g, cap, cur, rfl, _, hh, _⟩
  · simp [Value.ownBlock] at hk
  · simp [Value.ownBlock] at hk
    subst hk
    rw [hp.it] at hh
    have := congrArg (fun o => match o with | some (Obj.cells _ t _) => t | _ => 0) hh
    simp at this
end Go.Proofs.YtlcblcoodabpeaaDoor

namespace Go.Proofs.YtlcblcoodabpeaaDoor
open Go.RowKit

/-- A path, and true; or nothing, and false. -/
structure Ans where
  q : Int
  s : Int
  fr : Int
  b : Int
  l : List Stp
  ok : Bool
def Ans.no : Ans := { q := 0, s := 0, fr := 0, b := 0, l := [], ok := false }
/-- What is answered: in memory of the call's own. -/
def Gives (A : Ans) (w : World) (e : Ending) (w' : World) : Prop :=
  ∃ v, e = .returned (.tuple #[.agg #[.int .i64 A.q, .int .i64 A.s, v, .int .i64 A.fr, .int .i64 A.b], .bool A.ok]) ∧ w'.ownsRow w.heap.size 50 7 v A.l.length (stepCells A.l) ∧ Below w.heap.size w w'
theorem Gives.none {w w' : World} {e : Ending} (he : e = .returned (.tuple #[.agg #[.int .i64 0, .int .i64 0, .slice none 0 0, .int .i64 0, .int .i64 0], .bool false])) (hb : Below w.heap.size w w') : Gives .no w e w' :=
  ⟨_, he, World.ownsRow_nil _ _ _ _, hb⟩
end Go.Proofs.YtlcblcoodabpeaaDoor

namespace Go.Proofs.YtlcblcoodabpeaaDoor
open Go.RowKit

/-- The first step was entered within these ticks. -/
def enterL (m : List Stp) (x y : Int) : List Stp := m.set 0 { m.getD 0 .zero with fr := x, by_ := y }
/-- The first step is not left up to a tick. -/
def afterL (m : List Stp) (nw : Int) : List Stp := if 1 < m.length then m.set 1 { m.getD 1 .zero with fr := mxB (m.getD 1 .zero).fr (nw + 1) } else m
def afterFr (fr : Int) (m : List Stp) (nw : Int) : Int := if 1 < m.length then fr else mxB fr (nw + 1)
/-- What is left, entered within x .. y, seen at nw. -/
def leftL (l : List Stp) (k : Nat) (x y nw : Int) : List Stp := afterL (enterL (l.drop k) x y) nw
def leftFr (fr : Int) (l : List Stp) (k : Nat) (nw : Int) : Int := afterFr fr (l.drop k) nw
/-- A path, if there is a flight along it. -/
def canA (q s fr b : Int) (m : List Stp) : Ans := if spanB q s fr b m then { q := q, s := s, fr := fr, b := b, l := m, ok := true } else .no
/-- Somebody can be in that step now. -/
def inStepB (q s fr b : Int) (l : List Stp) (st nw : Int) : Bool := pathB q s fr b l && inB st 0 ((l.length : Int) - 1) && inB nw 0 10000
/-- What FlyRest answers. -/
def restA (q s fr b : Int) (l : List Stp) (st en nw : Int) : Ans :=
  if inStepB q s fr b l st nw && inB en 0 nw then canA q s (leftFr fr l st.toNat nw) b (leftL l st.toNat (mxB (l.getD st.toNat .zero).fr en) (mnB (l.getD st.toNat .zero).by_ en) nw) else .no
/-- The span of a place. -/
def spanOf (q s fr b : Int) (l : List Stp) (k : Nat) : Int × Int := bwdS q s fr b l l.length (l.length - k)
/-- What FlySeen answers. -/
def seenA (q s fr b : Int) (l : List Stp) (st nw : Int) : Ans :=
  if inStepB q s fr b l st nw && spanB q s fr b l then canA q s (leftFr fr l st.toNat nw) b (leftL l st.toNat (spanOf q s fr b l st.toNat).1 (mnB (spanOf q s fr b l st.toNat).2 nw) nw) else .no

theorem enterL_length (m : List Stp) (x y : Int) : (enterL m x y).length = m.length := by simp [enterL]
theorem afterL_length (m : List Stp) (nw : Int) : (afterL m nw).length = m.length := by unfold afterL; split <;> simp
theorem leftL_length (l : List Stp) (k : Nat) (x y nw : Int) : (leftL l k x y nw).length = l.length - k := by unfold leftL; rw [afterL_length, enterL_length, List.length_drop]
theorem set_getD {m : List Stp} {i j : Nat} {t : Stp} (hj : j < m.length) : (m.set i t).getD j .zero = if i = j then t else m.getD j .zero := by
  simp only [List.getD_eq_getElem?_getD]
  split
  · rename_i h; subst h; rw [List.getElem?_set_self hj]; rfl
  · rename_i h; rw [List.getElem?_set_ne h]

theorem enterL_getD {m : List Stp} (x y : Int) {j : Nat} (hj : j < m.length) : (enterL m x y).getD j .zero = if j = 0 then { m.getD 0 .zero with fr := x, by_ := y } else m.getD j .zero := by
  unfold enterL; rw [set_getD hj]; split <;> rename_i h
  · rw [if_pos h.symm]
  · rw [if_neg (fun e => h e.symm)]
theorem afterL_getD {m : List Stp} (nw : Int) {j : Nat} (hj : j < m.length) : (afterL m nw).getD j .zero = if j = 1 then { m.getD 1 .zero with fr := mxB (m.getD 1 .zero).fr (nw + 1) } else m.getD j .zero := by
  unfold afterL
  by_cases h : 1 < m.length
  · rw [if_pos h, set_getD hj]; split <;> rename_i h
    · rw [if_pos h.symm]
    · rw [if_neg (fun e => h e.symm)]
  · rw [if_neg h, if_neg (by omega)]
theorem drop_getD (l : List Stp) (k j : Nat) : (l.drop k).getD j .zero = l.getD (k + j) .zero := by simp [List.getD_eq_getElem?_getD, List.getElem?_drop]
theorem leftL_getD {l : List Stp} {k : Nat} (x y nw : Int) {j : Nat} (hj : k + j < l.length) :
    (leftL l k x y nw).getD j .zero = if j = 0 then { l.getD k .zero with fr := x, by_ := y } else if j = 1 then { l.getD (k + 1) .zero with fr := mxB (l.getD (k + 1) .zero).fr (nw + 1) } else l.getD (k + j) .zero := by
  unfold leftL
  rw [afterL_getD nw (by rw [enterL_length, List.length_drop]; omega)]
  by_cases h1 : j = 1
  · subst h1
    rw [if_pos rfl, if_neg (by decide), if_pos rfl, enterL_getD x y (by rw [List.length_drop]; omega), if_neg (by decide), drop_getD]
  · rw [if_neg h1, enterL_getD x y (by rw [List.length_drop]; omega)]
    by_cases h0 : j = 0
    · subst h0
      rw [if_pos rfl, if_pos rfl, drop_getD, Nat.add_zero]
    · rw [if_neg h0, if_neg h0, if_neg h1, drop_getD]
/-- It is as it was but for its ticks. -/
theorem leftL_same {l : List Stp} {k : Nat} (x y nw : Int) {j : Nat} (hj : k + j < l.length) :
    ((leftL l k x y nw).getD j .zero).x = (l.getD (k + j) .zero).x ∧ ((leftL l k x y nw).getD j .zero).y = (l.getD (k + j) .zero).y ∧ ((leftL l k x y nw).getD j .zero).lo = (l.getD (k + j) .zero).lo ∧ ((leftL l k x y nw).getD j .zero).hi = (l.getD (k + j) .zero).hi := by
  rw [leftL_getD x y nw hj]
  split
  · rename_i h; subst h; exact ⟨rfl, rfl, rfl, rfl⟩
  · split
    · rename_i h; subst h; exact ⟨rfl, rfl, rfl, rfl⟩
    · exact ⟨rfl, rfl, rfl, rfl⟩

theorem path_parts {q s fr b : Int} {l : List Stp} (h : pathB q s fr b l = true) : kindB q s = true ∧ (1 ≤ l.length ∧ l.length ≤ 40) ∧ (0 ≤ fr ∧ fr ≤ b ∧ b ≤ 10000) ∧ ∀ i, i < l.length → goodS l i = true := by
  have hl := path_len h
  simp only [pathB, Bool.and_eq_true, decide_eq_true_eq, goodTo, List.all_eq_true, List.mem_range] at h
  obtain ⟨⟨⟨⟨h1, _⟩, h3⟩, h4⟩, h5⟩ := h
  have h3' := (inB_iff _ _ _).1 h3
  exact ⟨h1, hl, ⟨h3'.1, h3'.2, h4⟩, h5⟩
theorem step_parts {l : List Stp} {i : Nat} (h : goodS l i = true) : 0 ≤ (l.getD i .zero).fr ∧ (l.getD i .zero).fr ≤ (l.getD i .zero).by_ ∧ (l.getD i .zero).by_ ≤ 10000 := by
  unfold goodS at h
  have h1 := (Bool.and_eq_true_iff.1 h).1
  simp only [stepB, decide_eq_true_eq] at h1
  omega

theorem left_wide {q s fr b : Int} {l : List Stp} (hp : pathB q s fr b l = true) {k : Nat} (hk : k < l.length) {x y nw : Int} (hx : 0 ≤ x) (hy : y ≤ 10000) (hn : 0 ≤ nw) : Wide q s (leftFr fr l k nw) b (leftL l k x y nw) where
  kind := kind_range hp
  len := by have := path_len hp; rw [leftL_length]; omega
  win i := by
    obtain ⟨_, _, h3, h4⟩ := path_parts hp
    unfold lowB highB
    rw [leftL_length]
    by_cases hi : i < l.length - k
    · rw [if_pos hi, if_pos hi, leftL_getD x y nw (by omega)]
      split
      · exact ⟨hx, hy⟩
      · split
        · have h5 := step_parts (h4 (k + 1) (by omega))
          have h6 := mxB_le (l.getD (k + 1) .zero).fr (nw + 1)
          exact ⟨by show 0 ≤ mxB _ _; omega, by show (l.getD (k + 1) .zero).by_ ≤ 10000; omega⟩
        · have h5 := step_parts (h4 (k + i) (by omega))
          omega
    · rw [if_neg hi, if_neg hi]
      refine ⟨?_, by omega⟩
      unfold leftFr afterFr
      split
      · omega
      · have h6 := mxB_le fr (nw + 1); omega

theorem span_windows {q s fr b : Int} {l : List Stp} (h : spanB q s fr b l = true) {i : Nat} (hi : i ≤ l.length) : lowB fr l i ≤ highB b l i := by
  unfold spanB at h
  have h1 := fwdTo_at (Bool.and_eq_true_iff.1 h).1 (show i < l.length + 1 by omega)
  cases i with
  | zero => exact h1
  | succ m =>
    have h2 := mxB_le (lowB fr l (m + 1)) ((fwdS q s fr b l m).1 + q)
    have h3 := mnB_le (highB b l (m + 1)) ((fwdS q s fr b l m).2 + mostB s l m)
    simp only [fwdS] at h1
    omega

theorem left_path {q s fr b : Int} {l : List Stp} (hp : pathB q s fr b l = true) {k : Nat} (hk : k < l.length) {x y nw : Int} (hx : 0 ≤ x) (hy : y ≤ 10000) (hn : 0 ≤ nw) (h : spanB q s (leftFr fr l k nw) b (leftL l k x y nw) = true) :
    pathB q s (leftFr fr l k nw) b (leftL l k x y nw) = true := by
  have hW := left_wide hp hk hx hy hn
  obtain ⟨h1, h2, h3, h4⟩ := path_parts hp
  have hlen := leftL_length l k x y nw
  have e1 : inB ((leftL l k x y nw).length : Int) 1 40 = true := (inB_iff _ _ _).2 (by have := hW.len; omega)
  have we := hW.win (l.length - k)
  have wl := span_windows h (i := l.length - k) (by rw [hlen]; exact Nat.le_refl _)
  have el : lowB (leftFr fr l k nw) (leftL l k x y nw) (l.length - k) = leftFr fr l k nw := by unfold lowB; rw [hlen, if_neg (by omega)]
  have eh : highB b (leftL l k x y nw) (l.length - k) = b := by unfold highB; rw [hlen, if_neg (by omega)]
  rw [el, eh] at wl we
  have e2 : inB (leftFr fr l k nw) 0 b = true := (inB_iff _ _ _).2 (by omega)
  have e3 : goodTo (leftL l k x y nw) (leftL l k x y nw).length = true := by
    simp only [goodTo, List.all_eq_true, List.mem_range]
    intro i hi
    rw [hlen] at hi
    have wi := hW.win i
    have wl := span_windows h (i := i) (by rw [hlen]; omega)
    unfold lowB highB at wi wl
    rw [hlen, if_pos hi, if_pos hi] at wi wl
    have hg := h4 (k + i) (by omega)
    obtain ⟨s1, s2, s3, s4⟩ := leftL_same (l := l) (k := k) x y nw (j := i) (by omega)
    unfold goodS at hg ⊢
    obtain ⟨g1, g2⟩ := Bool.and_eq_true_iff.1 hg
    refine Bool.and_eq_true_iff.2 ⟨?_, ?_⟩
    · simp only [stepB, decide_eq_true_eq] at g1 ⊢
      rw [s1, s2, s3, s4]
      omega
    · cases i with
      | zero => rfl
      | succ m =>
        obtain ⟨r1, r2, r3, r4⟩ := leftL_same (l := l) (k := k) x y nw (j := m) (by omega)
        rw [show k + (m + 1) - 1 = k + m by omega] at g2
        have hne : decide (k + (m + 1) = 0) = false := by simp
        rw [hne, Bool.false_or] at g2
        rw [show m + 1 - 1 = m by omega, s1, s2, s3, s4, r1, r2, r3, r4, g2]
        simp
  unfold pathB
  rw [h1, e1, e2, e3, show decide (b ≤ 10000) = true by simp; omega]
  rfl
/-- The ticks of a span. -/
theorem span_lo {q s fr b : Int} {l : List Stp} (hp : pathB q s fr b l = true) (_h : spanB q s fr b l = true) {k : Nat} (hk : k ≤ l.length) : 0 ≤ (spanOf q s fr b l k).1 := by
  unfold spanOf
  have hf := fwd_range hp k
  by_cases e : k = l.length
  · subst e; rw [Nat.sub_self]; exact hf.1
  · obtain ⟨j, hj⟩ : ∃ j, l.length - k = j + 1 := ⟨l.length - k - 1, by omega⟩
    rw [hj]
    simp only [bwdS]
    rw [show l.length - (j + 1) = k by omega]
    have := mxB_le (fwdS q s fr b l k).1 ((bwdS q s fr b l l.length j).1 - mostB s l k)
    omega
end Go.Proofs.YtlcblcoodabpeaaDoor

namespace Go.Proofs.YtlcblcoodabpeaaDoor
open Go.RowKit

set_option maxRecDepth 20000 in
set_option maxHeartbeats 1000000 in
theorem cloneS_any (b0 o cap : Nat) (l : List Stp) (w : World) (hl0 : 1 ≤ l.length) (hl : l.length ≤ 1048576) (hs : StepsAt w (some ⟨b0, o, none⟩) b0 o l) :
    Calls Tryd.prog 63 #[.slice (some ⟨b0, o, none⟩) l.length cap] w
      fun e w' => ∃ g gc, e = .returned (.slice (some ⟨g, 0, none⟩) l.length gc) ∧ w'.ownsRow w.heap.size 50 7 (.slice (some ⟨g, 0, none⟩) l.length gc) l.length (stepCells l) ∧ Below w.heap.size w w' := by
  obtain ⟨i0, hi, hz0, hz1, hz2⟩ := info_parts step_info
  have hE := owns_empty (w := w) (base := w.heap.size) (e := 50) (size := 7) (Nat.le_refl _)
  have hnew := steps_news (hs.alloc (.cells #[] 50))
  have hnil := Lib.run_eql_slice_nil (P := Tryd.prog) w 29 50 (some ⟨b0, o, none⟩) l.length cap 0 0 Tryd.underlying29
  go_enter Tryd.func63, Tryd.ntmps63
  go_wp2_with (at_builtin; refine wpList_append_own _ rfl (.tmp 5) (.tmp 6) 29 rfl w.heap.size 50 i0 (.agg #[.int .i64 0, .int .i64 0, .int .i64 0, .int .i64 0, .int .i64 0, .int .i64 0, .bool false]) 7 56 Tryd.underlying29 hi hz0 hz1 hz2 rfl (by decide) (.slice (some ⟨w.heap.size, 0, none⟩) 0 0) 0 [] rfl hE ⟨b0, o, none⟩ l.length cap (stepCells l) rfl (stepCells_length l) hnew (stepCells_one l) (by unfold maxLen; omega) (by omega) (by simp) ?_; intro v1 w1 hown1 hgrow1 hnil1)
  go_ret
  simp only [Nat.zero_add, List.nil_append] at hown1
  obtain ⟨g, gc, rfl, _, _⟩ := owns_some hown1 (by omega)
  exact ⟨g, gc, rfl, hown1, ((Below.refl w.heap.size w).alloc (Nat.le_refl _) _).grown hgrow1 (by simp) (fun k e => by simp [Value.ownBlock] at e; omega)⟩

end Go.Proofs.YtlcblcoodabpeaaDoor

namespace Go.Proofs.YtlcblcoodabpeaaDoor
open Go.RowKit

/-- The worlds in which all that lay in w lies as it lay. -/
structure Cls (w : World) where
  it : World
  same : Below w.heap.size w it

theorem Cls.any (w : World) : Nonempty (Cls w) := ⟨⟨w, Below.refl _ _⟩⟩

/-- One walk of the lexical order serves every order, where the operations only read and the callees lay new blocks at most. -/
theorem wp_region_cls {P : Program} {id : Nat} {Q : Exit → Act → World → Prop} {a : Act} {w : World} {l : List Oper} (hm : P.follows .mixedOrders = true) (hB : Region.lexB .any l.toArray = true)
    (h : wpQuiet P l.toArray (fun w' => ∃ u : Cls w, w' = u.it) (fun a' => ∀ w', (∃ u : Cls w, w' = u.it) → Q .normal a' w') l a) : (Code.region id l.toArray true).wp P Q a w :=
  wp_region_quiet (C := fun w' => ∃ u : Cls w, w' = u.it) hm hB ⟨⟨{ w with drawn := w.drawn + 1 }, (Below.refl w.heap.size w).drew⟩, rfl⟩ (by simpa using h)

/-- A callee's contract, met in a world of the class. -/
theorem Calls.cls_of {P : Program} {f : FuncId} {args : Array Value} {w : World} {u : Cls w} {v : Value}
    (h : Calls P f args u.it fun e w' => e = .returned v ∧ Below u.it.heap.size u.it w') : Calls P f args u.it fun e w'' => e = .returned v ∧ ∃ m : Cls w, w'' = m.it :=
  h.mono fun _ w' ⟨he, hb⟩ => ⟨he, ⟨w', u.same.trans (hb.mono u.same.size)⟩, rfl⟩
theorem Calls.cls_of_same {P : Program} {f : FuncId} {args : Array Value} {w : World} {u : Cls w} {v : Value}
    (h : Calls P f args u.it fun e w' => e = .returned v ∧ w' = u.it) : Calls P f args u.it fun e w'' => e = .returned v ∧ ∃ m : Cls w, w'' = m.it :=
  h.mono fun _ _ ⟨he, hb⟩ => ⟨he, u, hb⟩

/-- A block that lay there reads as it did. -/
theorem Cls.cell {w : World} {b : Nat} (hb : b < w.heap.size) (u : Cls w) (o : Nat) : u.it.cell? ⟨b, o, none⟩ = w.cell? ⟨b, o, none⟩ := u.same.cell (p := ⟨b, o, none⟩) hb
end Go.Proofs.YtlcblcoodabpeaaDoor

namespace Go.Proofs.YtlcblcoodabpeaaDoor
open Go.RowKit

theorem mx_hi {a c : Int} (h : a < c) : mxB a c = c := by unfold mxB; rw [if_neg (by omega)]
theorem mx_lo {a c : Int} (h : c ≤ a) : mxB a c = a := by unfold mxB; split <;> omega
theorem mn_hi {b d : Int} (h : d < b) : mnB b d = d := by unfold mnB; rw [if_neg (by omega)]
theorem mn_lo {b d : Int} (h : b ≤ d) : mnB b d = b := by unfold mnB; split <;> omega
theorem three_bel {w : World} (c1 c2 c3 : Obj) : Below w.heap.size w (((w.alloc c1).alloc c2).alloc c3) := (((Below.refl w.heap.size w).alloc (Nat.le_refl _) _).alloc (by simp) _).alloc (by simp; omega) _

theorem meet_any (a b c d : Int) (w : World) :
    Calls Tryd.prog 50 #[.agg #[.int .i64 a, .int .i64 b], .agg #[.int .i64 c, .int .i64 d]] w fun e w' => e = .returned (.agg #[.int .i64 (mxB a c), .int .i64 (mnB b d)]) ∧ Below w.heap.size w w' := by
  go_enter Tryd.func50, Tryd.ntmps50
  go_wp2
  all_goals rename_i h1
  · rw [mx_hi h1, mn_hi h]
    exact bodyPost_ret (v := .agg #[.int .i64 c, .int .i64 d]) (by simp [results, Tryd.results50, go_sem]) rfl ⟨rfl, three_bel _ _ _⟩
  · rw [mx_hi h1, mn_lo h]
    exact bodyPost_ret (v := .agg #[.int .i64 c, .int .i64 b]) (by simp [results, Tryd.results50, go_sem]) rfl ⟨rfl, three_bel _ _ _⟩
  · rw [mx_lo h1, mn_hi h]
    exact bodyPost_ret (v := .agg #[.int .i64 a, .int .i64 d]) (by simp [results, Tryd.results50, go_sem]) rfl ⟨rfl, three_bel _ _ _⟩
  · rw [mx_lo h1, mn_lo h]
    exact bodyPost_ret (v := .agg #[.int .i64 a, .int .i64 b]) (by simp [results, Tryd.results50, go_sem]) rfl ⟨rfl, three_bel _ _ _⟩

set_option maxHeartbeats 2000000 in
set_option maxRecDepth 20000 in
theorem tightL_any (a b c d e f : Int) (w : World) (ha : -100000 ≤ a ∧ a ≤ 100000) (hb : -100000 ≤ b ∧ b ≤ 100000) (he : -100000 ≤ e ∧ e ≤ 100000) (hf : -100000 ≤ f ∧ f ≤ 100000) :
    Calls Tryd.prog 58 #[.agg #[.int .i64 a, .int .i64 b], .agg #[.int .i64 c, .int .i64 d], .agg #[.int .i64 e, .int .i64 f]] w
      fun x w' => x = .returned (.tuple #[.agg #[.int .i64 a, .int .i64 b], .agg #[.int .i64 (mxB c (a + e)), .int .i64 (mnB d (b + f))]]) ∧ Below w.heap.size w w' := by
  obtain ⟨a0, a1⟩ := ha
  obtain ⟨b0, b1⟩ := hb
  obtain ⟨e0, e1⟩ := he
  obtain ⟨f0, f1⟩ := hf
  have w0 : IntKind.i64.wrap (a + e) = a + e := by rw [IntKind.wrap_i64]; omega
  have w2 : IntKind.i64.wrap (b + f) = b + f := by rw [IntKind.wrap_i64]; omega
  go_enter Tryd.func58, Tryd.ntmps58
  go_wp2
  go_region_held3 (fun w' => w'.cell? ⟨w.heap.size, 0, none⟩ = some (.int .i64 a) ∧ w'.cell? ⟨w.heap.size, 1, none⟩ = some (.int .i64 b) ∧ w'.cell? ⟨w.heap.size + 1, 0, none⟩ = some (.int .i64 c) ∧ w'.cell? ⟨w.heap.size + 1, 1, none⟩ = some (.int .i64 d) ∧ w'.cell? ⟨w.heap.size + 1 + 1, 0, none⟩ = some (.int .i64 e) ∧ w'.cell? ⟨w.heap.size + 1 + 1, 1, none⟩ = some (.int .i64 f))
    (simp [go_sem, *])
    (first | (go_at_call 50; refine (meet_any _ _ _ _ _).mono ?_; rintro x w1 ⟨rfl, hb1⟩; obtain ⟨hc1, hf1⟩ := old_cells hb1; have r0 : w1.cell? ⟨w.heap.size + 1 + 1 + 1, 0, none⟩ = some (.int .i64 0) := (by rw [hc1 _ _ (by simp)]; simp [go_sem]); have r1 : w1.cell? ⟨w.heap.size + 1 + 1 + 1, 1, none⟩ = some (.int .i64 0) := (by rw [hc1 _ _ (by simp)]; simp [go_sem]); have r2 : w1.cell? ⟨w.heap.size + 1 + 1 + 1 + 1, 0, none⟩ = some (.int .i64 0) := (by rw [hc1 _ _ (by simp)]; simp [go_sem]); have r3 : w1.cell? ⟨w.heap.size + 1 + 1 + 1 + 1, 1, none⟩ = some (.int .i64 0) := (by rw [hc1 _ _ (by simp)]; simp [go_sem]); have r4 : ∀ j, w1.frozen? ⟨w.heap.size + 1 + 1 + 1, j, none⟩ = false := (by intro j; rw [hf1 _ _ (by simp)]; simp [go_sem]); have r5 : ∀ j, w1.frozen? ⟨w.heap.size + 1 + 1 + 1 + 1, j, none⟩ = false := (by intro j; rw [hf1 _ _ (by simp)]; simp [go_sem])))
  have hb01 : Below w.heap.size w w1 := (((three_bel _ _ _).alloc (by simp; omega) _).alloc (by simp; omega) _).drew.trans (hb1.mono (by simp [World.drew]; omega))
  clear hb1 hc1 hf1
  go_wp2
  refine bodyPost_ret (v := .tuple #[.agg #[.int .i64 a, .int .i64 b], .agg #[.int .i64 (mxB c (a + e)), .int .i64 (mnB d (b + f))]]) (by simp [results, Tryd.results58, go_sem, *]) rfl ⟨rfl, ?_⟩
  iterate 4 (refine Below.setCell ?_ (by simp; omega) _)
  exact hb01
set_option maxHeartbeats 2000000 in
set_option maxRecDepth 20000 in
theorem tightE_any (a b c d e f : Int) (w : World) (hc : -100000 ≤ c ∧ c ≤ 100000) (hd : -100000 ≤ d ∧ d ≤ 100000) (he : -100000 ≤ e ∧ e ≤ 100000) (hf : -100000 ≤ f ∧ f ≤ 100000) :
    Calls Tryd.prog 60 #[.agg #[.int .i64 a, .int .i64 b], .agg #[.int .i64 c, .int .i64 d], .agg #[.int .i64 e, .int .i64 f]] w
      fun x w' => x = .returned (.tuple #[.agg #[.int .i64 (mxB a (c - f)), .int .i64 (mnB b (d - e))], .agg #[.int .i64 c, .int .i64 d]]) ∧ Below w.heap.size w w' := by
  obtain ⟨c0, c1⟩ := hc
  obtain ⟨d0, d1⟩ := hd
  obtain ⟨e0, e1⟩ := he
  obtain ⟨f0, f1⟩ := hf
  have w0 : IntKind.i64.wrap (c - f) = c - f := by rw [IntKind.wrap_i64]; omega
  have w2 : IntKind.i64.wrap (d - e) = d - e := by rw [IntKind.wrap_i64]; omega
  go_enter Tryd.func60, Tryd.ntmps60
  go_wp2
  go_region_held3 (fun w' => w'.cell? ⟨w.heap.size, 0, none⟩ = some (.int .i64 a) ∧ w'.cell? ⟨w.heap.size, 1, none⟩ = some (.int .i64 b) ∧ w'.cell? ⟨w.heap.size + 1, 0, none⟩ = some (.int .i64 c) ∧ w'.cell? ⟨w.heap.size + 1, 1, none⟩ = some (.int .i64 d) ∧ w'.cell? ⟨w.heap.size + 1 + 1, 0, none⟩ = some (.int .i64 e) ∧ w'.cell? ⟨w.heap.size + 1 + 1, 1, none⟩ = some (.int .i64 f))
    (simp [go_sem, *])
    (first | (go_at_call 50; refine (meet_any _ _ _ _ _).mono ?_; rintro x w1 ⟨rfl, hb1⟩; obtain ⟨hc1, hf1⟩ := old_cells hb1; have r0 : w1.cell? ⟨w.heap.size + 1 + 1 + 1, 0, none⟩ = some (.int .i64 0) := (by rw [hc1 _ _ (by simp)]; simp [go_sem]); have r1 : w1.cell? ⟨w.heap.size + 1 + 1 + 1, 1, none⟩ = some (.int .i64 0) := (by rw [hc1 _ _ (by simp)]; simp [go_sem]); have r2 : w1.cell? ⟨w.heap.size + 1 + 1 + 1 + 1, 0, none⟩ = some (.int .i64 0) := (by rw [hc1 _ _ (by simp)]; simp [go_sem]); have r3 : w1.cell? ⟨w.heap.size + 1 + 1 + 1 + 1, 1, none⟩ = some (.int .i64 0) := (by rw [hc1 _ _ (by simp)]; simp [go_sem]); have r4 : ∀ j, w1.frozen? ⟨w.heap.size + 1 + 1 + 1, j, none⟩ = false := (by intro j; rw [hf1 _ _ (by simp)]; simp [go_sem]); have r5 : ∀ j, w1.frozen? ⟨w.heap.size + 1 + 1 + 1 + 1, j, none⟩ = false := (by intro j; rw [hf1 _ _ (by simp)]; simp [go_sem])))
  have hb01 : Below w.heap.size w w1 := (((three_bel _ _ _).alloc (by simp; omega) _).alloc (by simp; omega) _).drew.trans (hb1.mono (by simp [World.drew]; omega))
  clear hb1 hc1 hf1
  go_wp2
  refine bodyPost_ret (v := .tuple #[.agg #[.int .i64 (mxB a (c - f)), .int .i64 (mnB b (d - e))], .agg #[.int .i64 c, .int .i64 d]]) (by simp [results, Tryd.results60, go_sem, *]) rfl ⟨rfl, ?_⟩
  iterate 4 (refine Below.setCell ?_ (by simp; omega) _)
  exact hb01
theorem spanNo_any (a b : Int) (w : World) :
    Calls Tryd.prog 71 #[.agg #[.int .i64 a, .int .i64 b]] w fun e w' => e = .returned (.bool (decide (b < a))) ∧ Below w.heap.size w w' := by
  go_enter Tryd.func71, Tryd.ntmps71
  go_wp2
  go_ret
  exact ⟨rfl, (Below.refl _ _).alloc (Nat.le_refl _) _⟩
theorem spanNo_val (a b : Int) (v : Bool) (w : World) (hv : decide (b < a) = v) :
    Calls Tryd.prog 71 #[.agg #[.int .i64 a, .int .i64 b]] w fun e w' => e = .returned (.bool v) ∧ Below w.heap.size w w' := by
  rw [← hv]; exact spanNo_any a b w
end Go.Proofs.YtlcblcoodabpeaaDoor

namespace Go.Proofs.YtlcblcoodabpeaaDoor
open Go.RowKit

theorem onSide_any (n : Int) (w : World) :
    Calls Tryd.prog 79 #[.int .i64 n] w fun e w' => e = .returned (.bool (inB n 0 15)) ∧ w' = w := by
  by_cases h1 : 0 ≤ n
  · go_enter Tryd.func79, Tryd.ntmps79
    go_wp2
    go_ret
    have e1 : decide (n < 16) = inB n 0 15 := by by_cases h : n < 16 <;> simp [inB, h, h1] <;> omega
    exact ⟨by rw [← e1]; rfl, rfl⟩
  · have h1' : decide (0 ≤ n) = false := by simpa using h1
    go_enter Tryd.func79, Tryd.ntmps79
    go_wp2
    go_ret
    exact ⟨by simp [inB, h1'], rfl⟩

theorem ordered_any (a b c d : Int) (w : World) :
    Calls Tryd.prog 78 #[.int .i64 a, .int .i64 b, .int .i64 c, .int .i64 d] w fun e w' => e = .returned (.bool (ordB a b c d)) ∧ w' = w := by
  by_cases h1 : a ≤ b
  · by_cases h2 : b ≤ c
    · go_enter Tryd.func78, Tryd.ntmps78
      go_wp2
      go_ret
      exact ⟨by simp [ordB, h1, h2], rfl⟩
    · have e1 : ordB a b c d = false := by simp [ordB]; omega
      rw [e1]
      clear e1
      go_enter Tryd.func78, Tryd.ntmps78
      go_wp2
      go_ret
      exact ⟨rfl, rfl⟩
  · have e1 : ordB a b c d = false := by simp [ordB]; omega
    rw [e1]
    clear e1
    go_enter Tryd.func78, Tryd.ntmps78
    go_wp2
    go_ret
    exact ⟨rfl, rfl⟩

theorem isBeside_any (a b : Int) (w : World) :
    Calls Tryd.prog 81 #[.int .i64 a, .int .i64 b] w fun e w' => e = .returned (.bool (inB (wrap64 (a - b)) (-1) 1)) ∧ w' = w := by
  by_cases h1 : -1 ≤ wrap64 (a - b)
  · go_enter Tryd.func81, Tryd.ntmps81
    go_wp2
    go_ret
    exact ⟨by simp [inB, h1], rfl⟩
  · have h1' : decide (-1 ≤ wrap64 (a - b)) = false := by simpa using h1
    go_enter Tryd.func81, Tryd.ntmps81
    go_wp2
    go_ret
    exact ⟨by simp [inB, h1'], rfl⟩

theorem stepOk_any (x y lo hi fr b : Int) (ho : Bool) (w : World) :
    Calls Tryd.prog 75 #[.agg #[.int .i64 x, .int .i64 y, .int .i64 lo, .int .i64 hi, .int .i64 fr, .int .i64 b, .bool ho]] w fun e w' => e = .returned (.bool (stepB x y lo hi fr b)) ∧ Below w.heap.size w w' := by
  have hb := (Below.refl w.heap.size w).alloc (Nat.le_refl _) (.cells #[.int .i64 x, .int .i64 y, .int .i64 lo, .int .i64 hi, .int .i64 fr, .int .i64 b, .bool ho] 50)
  cases h1 : inB x 0 15 with
  | false =>
    have e1 : stepB x y lo hi fr b = false := by simp [stepB, inB] at *; omega
    rw [e1]; clear e1
    go_enter Tryd.func75, Tryd.ntmps75
    go_wp2_with (first | (go_at_call 79; refine (onSide_any _ _).mono ?_; rintro e w' ⟨rfl, rfl⟩) | (go_at_call 78; refine (ordered_any _ _ _ _ _).mono ?_; rintro e w' ⟨rfl, rfl⟩))
    go_ret
    exact ⟨rfl, hb⟩
  | true =>
  cases h2 : inB y 0 15 with
  | false =>
    have e1 : stepB x y lo hi fr b = false := by simp [stepB, inB] at *; omega
    rw [e1]; clear e1
    go_enter Tryd.func75, Tryd.ntmps75
    go_wp2_with (first | (go_at_call 79; refine (onSide_any _ _).mono ?_; rintro e w' ⟨rfl, rfl⟩) | (go_at_call 78; refine (ordered_any _ _ _ _ _).mono ?_; rintro e w' ⟨rfl, rfl⟩))
    go_ret
    exact ⟨rfl, hb⟩
  | true =>
  cases h3 : ordB 0 lo hi 6 with
  | false =>
    have e1 : stepB x y lo hi fr b = false := by simp [stepB, inB, ordB] at *; omega
    rw [e1]; clear e1
    go_enter Tryd.func75, Tryd.ntmps75
    go_wp2_with (first | (go_at_call 79; refine (onSide_any _ _).mono ?_; rintro e w' ⟨rfl, rfl⟩) | (go_at_call 78; refine (ordered_any _ _ _ _ _).mono ?_; rintro e w' ⟨rfl, rfl⟩))
    go_ret
    exact ⟨rfl, hb⟩
  | true =>
    have e1 : stepB x y lo hi fr b = ordB 0 fr b 10000 := by
      rw [Bool.eq_iff_iff]; simp [stepB, inB, ordB] at *; omega
    rw [e1]; clear e1
    go_enter Tryd.func75, Tryd.ntmps75
    go_wp2_with (first | (go_at_call 79; refine (onSide_any _ _).mono ?_; rintro e w' ⟨rfl, rfl⟩) | (go_at_call 78; refine (ordered_any _ _ _ _ _).mono ?_; rintro e w' ⟨rfl, rfl⟩))
    go_ret
    exact ⟨rfl, hb⟩

theorem sharesLevel_any (x y lo hi fr b x' y' lo' hi' fr' b' : Int) (ho ho' : Bool) (w : World) :
    Calls Tryd.prog 82 #[.agg #[.int .i64 x, .int .i64 y, .int .i64 lo, .int .i64 hi, .int .i64 fr, .int .i64 b, .bool ho], .agg #[.int .i64 x', .int .i64 y', .int .i64 lo', .int .i64 hi', .int .i64 fr', .int .i64 b', .bool ho']] w
      fun e w' => e = .returned (.bool (levB lo hi lo' hi')) ∧ Below w.heap.size w w' := by
  have hb := ((Below.refl w.heap.size w).alloc (Nat.le_refl _) (.cells #[.int .i64 x, .int .i64 y, .int .i64 lo, .int .i64 hi, .int .i64 fr, .int .i64 b, .bool ho] 50)).alloc (by simp) (.cells #[.int .i64 x', .int .i64 y', .int .i64 lo', .int .i64 hi', .int .i64 fr', .int .i64 b', .bool ho'] 50)
  by_cases h1 : lo ≤ hi'
  · go_enter Tryd.func82, Tryd.ntmps82
    go_wp2
    go_ret
    exact ⟨by simp [levB, h1], hb⟩
  · have h1' : decide (lo ≤ hi') = false := by simpa using h1
    go_enter Tryd.func82, Tryd.ntmps82
    go_wp2
    go_ret
    exact ⟨by simp [levB, h1'], hb⟩

set_option maxHeartbeats 1000000 in
theorem follows_any (x y lo hi fr b x' y' lo' hi' fr' b' : Int) (ho ho' : Bool) (w : World) :
    Calls Tryd.prog 77 #[.agg #[.int .i64 x, .int .i64 y, .int .i64 lo, .int .i64 hi, .int .i64 fr, .int .i64 b, .bool ho], .agg #[.int .i64 x', .int .i64 y', .int .i64 lo', .int .i64 hi', .int .i64 fr', .int .i64 b', .bool ho']] w
      fun e w' => e = .returned (.bool (folB x y lo hi x' y' lo' hi')) ∧ Below w.heap.size w w' := by
  have hb := ((Below.refl w.heap.size w).alloc (Nat.le_refl _) (.cells #[.int .i64 x, .int .i64 y, .int .i64 lo, .int .i64 hi, .int .i64 fr, .int .i64 b, .bool ho] 50)).alloc (by simp) (.cells #[.int .i64 x', .int .i64 y', .int .i64 lo', .int .i64 hi', .int .i64 fr', .int .i64 b', .bool ho'] 50)
  cases h1 : (x == x') <;> cases h2 : (y == y') <;> cases h3 : inB (wrap64 (x - x')) (-1) 1 <;> cases h4 : inB (wrap64 (y - y')) (-1) 1
  all_goals
    go_enter Tryd.func77, Tryd.ntmps77
    go_wp2_with (first | (go_at_call 81; refine (isBeside_any _ _ _).mono ?_; rintro e w' ⟨rfl, rfl⟩) | (go_at_call 82; refine (sharesLevel_any x y lo hi fr b x' y' lo' hi' fr' b' ho ho' _).mono ?_; rintro e w1 ⟨rfl, hb1⟩))
    go_ret
    first
      | exact ⟨by simp [folB, h1, h2, h3, h4], hb⟩
      | exact ⟨by simp [folB, h1, h2, h3, h4], hb.trans (hb1.mono (by simp; omega))⟩
end Go.Proofs.YtlcblcoodabpeaaDoor

namespace Go.Proofs.YtlcblcoodabpeaaDoor
open Go.RowKit

theorem kindM_any (q s : Int) (w : World) :
    Calls Tryd.prog 74 #[.agg #[.int .i64 q, .int .i64 s]] w fun e w' => e = .returned (.bool (kindB q s)) ∧ Below w.heap.size w w' := by
  have hb := (Below.refl w.heap.size w).alloc (Nat.le_refl _) (.cells #[.int .i64 q, .int .i64 s] 28)
  by_cases h1 : 1 ≤ q
  · by_cases h2 : q ≤ s
    · go_enter Tryd.func74, Tryd.ntmps74
      go_wp2
      go_ret
      exact ⟨by simp [kindB, h1, h2], hb⟩
    · have e1 : kindB q s = false := by simp [kindB]; omega
      go_enter Tryd.func74, Tryd.ntmps74
      go_wp2
      go_ret
      exact ⟨by first | rfl | (rw [e1]; rfl), hb⟩
  · have e1 : kindB q s = false := by simp [kindB]; omega
    go_enter Tryd.func74, Tryd.ntmps74
    go_wp2
    go_ret
    exact ⟨by first | rfl | (rw [e1]; rfl), hb⟩

theorem kindIsOk_any (q s fr b : Int) (a : Option Addr) (n cap : Nat) (w : World) :
    Calls Tryd.prog 65 #[.agg #[.int .i64 q, .int .i64 s, .slice a n cap, .int .i64 fr, .int .i64 b]] w fun e w' => e = .returned (.bool (kindB q s)) ∧ Below w.heap.size w w' := by
  go_enter Tryd.func65, Tryd.ntmps65
  go_wp2_with (go_at_call 74; refine (kindM_any _ _ _).mono ?_; rintro e w1 ⟨rfl, hb1⟩)
  go_ret
  exact ⟨rfl, ((Below.refl _ _).alloc (Nat.le_refl _) _).trans (hb1.mono (by simp))⟩

theorem stepCount_any (q s fr b : Int) (a : Option Addr) (n cap : Nat) (w : World) (hn : n ≤ 1048576) :
    Calls Tryd.prog 66 #[.agg #[.int .i64 q, .int .i64 s, .slice a n cap, .int .i64 fr, .int .i64 b]] w fun e w' => e = .returned (.bool (inB n 1 40)) ∧ Below w.heap.size w w' := by
  have hb := (Below.refl w.heap.size w).alloc (Nat.le_refl _) (.cells #[.int .i64 q, .int .i64 s, .slice a n cap, .int .i64 fr, .int .i64 b] 31)
  by_cases h1 : (1 : Int) ≤ (n : Int)
  · have e1 : inB n 1 40 = decide ((n : Int) ≤ 40) := by simp [inB, h1]
    go_enter Tryd.func66, Tryd.ntmps66
    go_wp2
    go_ret
    exact ⟨by first | rfl | (rw [e1]; rfl), hb⟩
  · have e1 : inB n 1 40 = false := by simp [inB]; omega
    go_enter Tryd.func66, Tryd.ntmps66
    go_wp2
    go_ret
    exact ⟨by first | rfl | (rw [e1]; rfl), hb⟩

theorem endIsOk_any (q s fr b : Int) (a : Option Addr) (n cap : Nat) (w : World) :
    Calls Tryd.prog 69 #[.agg #[.int .i64 q, .int .i64 s, .slice a n cap, .int .i64 fr, .int .i64 b]] w fun e w' => e = .returned (.bool (ordB 0 fr b 10000)) ∧ Below w.heap.size w w' := by
  go_enter Tryd.func69, Tryd.ntmps69
  go_wp2_with (go_at_call 78; refine (ordered_any _ _ _ _ _).mono ?_; rintro e w' ⟨rfl, rfl⟩)
  go_ret
  exact ⟨rfl, (Below.refl _ _).alloc (Nat.le_refl _) _⟩

set_option maxHeartbeats 1000000 in
theorem stepsAreOk_any (q s fr b : Int) (a : Option Addr) (b0 o cap : Nat) (l : List Stp) (w : World) (hl : l.length ≤ 1048576) (hs : StepsAt w a b0 o l) :
    Calls Tryd.prog 67 #[.agg #[.int .i64 q, .int .i64 s, .slice a l.length cap, .int .i64 fr, .int .i64 b]] w fun e w' => e = .returned (.bool (okTo l l.length)) ∧ Below w.heap.size w w' := by
  go_enter Tryd.func67, Tryd.ntmps67
  go_wp2
  go_loopw [8] (fun v wr => ∃ k : Nat, k ≤ l.length ∧ v = .int .i64 k ∧ Below w.heap.size w wr ∧ okTo l k = true) (fun v _ => l.length - (intOf v).toNat)
  case atStart => exact ⟨0, Nat.zero_le _, rfl, (Below.refl _ _).alloc (Nat.le_refl _) _, rfl⟩
  case round =>
    obtain ⟨k, hk, rfl, hb, hgood⟩ := hrel
    have HG : Hid (okTo l k = true) := hgood
    clear hgood
    by_cases hlt : k < l.length
    · obtain ⟨t, htk⟩ : ∃ t, l[k]? = some t := ⟨l[k], List.getElem?_eq_getElem hlt⟩
      have hne : l ≠ [] := by intro e; subst e; simp at hlt
      obtain rfl := hs.here hne
      have hbw := hs.lt hne
      obtain ⟨d0, d1, d2, d3, d4, d5, d6⟩ := (hs.below hb (fun _ => hbw)).seven htk
      have HT : Hid (l.getD k .zero = t) := by show _ = _; simp [List.getD, htk]
      clear htk
      have HE : Hid (okS l k = stepB t.x t.y t.lo t.hi t.fr t.by_) := by show _ = _; unfold okS; rw [HT.out]
      cases hok : stepB t.x t.y t.lo t.hi t.fr t.by_ with
      | false =>
        have G1 : Hid (okTo l l.length = false) := all_not hlt (HE.out.trans hok)
        go_wp2_with (go_at_call 75; refine (stepOk_any _ _ _ _ _ _ _ _).mono ?_; rintro e w2 ⟨rfl, hb2⟩)
        go_ret
        exact ⟨by rw [G1.out]; rfl, (hb.alloc hb.size _).trans (hb2.mono (by have := hb.size; simp; omega))⟩
      | true =>
        have G1 : Hid (okTo l (k + 1) = true) := by show _ = _; unfold okTo; rw [all_succ]; have := HG.out; unfold okTo at this; rw [this, HE.out, hok]; rfl
        go_wp2_with (go_at_call 75; refine (stepOk_any _ _ _ _ _ _ _ _).mono ?_; rintro e w2 ⟨rfl, hb2⟩)
        go_roundw
        case rel => exact ⟨k + 1, by omega, by go_num, (hb.alloc hb.size _).trans (hb2.mono (by have := hb.size; simp; omega)), G1.out⟩
        case measure => simp [intOf]; omega
    · obtain rfl : k = l.length := by omega
      go_wp2
      go_ret
      exact ⟨by rw [HG.out]; rfl, hb⟩
end Go.Proofs.YtlcblcoodabpeaaDoor

namespace Go.Proofs.YtlcblcoodabpeaaDoor
open Go.RowKit

/-- What is asked of the check of two steps. -/
def FollowSaid : Prop := ∀ (q s fr b : Int) (a : Option Addr) (b0 o cap : Nat) (l : List Stp) (w : World), l.length ≤ 1048576 → StepsAt w a b0 o l →
    Calls Tryd.prog 68 #[.agg #[.int .i64 q, .int .i64 s, .slice a l.length cap, .int .i64 fr, .int .i64 b]] w fun e w' => e = .returned (.bool (folTo l (l.length - 1))) ∧ Below w.heap.size w w'

/-- The two blocks that the call itself laid: the path, and the list of checks. -/
structure Laid2 (w wr : World) (q s fr b : Int) (v : Value) : Prop where
  old : Below w.heap.size w wr
  size : w.heap.size + 2 ≤ wr.heap.size
  p0 : wr.cell? ⟨w.heap.size, 0, none⟩ = some (.int .i64 q)
  p1 : wr.cell? ⟨w.heap.size, 1, none⟩ = some (.int .i64 s)
  p2 : wr.cell? ⟨w.heap.size, 2, none⟩ = some v
  p3 : wr.cell? ⟨w.heap.size, 3, none⟩ = some (.int .i64 fr)
  p4 : wr.cell? ⟨w.heap.size, 4, none⟩ = some (.int .i64 b)
  f0 : wr.cell? ⟨w.heap.size + 1, 0, none⟩ = some (.func (.func 65) #[] #[])
  f1 : wr.cell? ⟨w.heap.size + 1, 1, none⟩ = some (.func (.func 66) #[] #[])
  f2 : wr.cell? ⟨w.heap.size + 1, 2, none⟩ = some (.func (.func 67) #[] #[])
  f3 : wr.cell? ⟨w.heap.size + 1, 3, none⟩ = some (.func (.func 68) #[] #[])
  f4 : wr.cell? ⟨w.heap.size + 1, 4, none⟩ = some (.func (.func 69) #[] #[])

theorem Laid2.below {w wr w2 : World} {q s fr b : Int} {v : Value} (h : Laid2 w wr q s fr b v) (hb : Below wr.heap.size wr w2) : Laid2 w w2 q s fr b v := by
  have z := h.size
  have c0 : ∀ j, w2.cell? ⟨w.heap.size, j, none⟩ = wr.cell? ⟨w.heap.size, j, none⟩ := fun j => hb.cell (p := ⟨w.heap.size, j, none⟩) (by show w.heap.size < _; omega)
  have c1 : ∀ j, w2.cell? ⟨w.heap.size + 1, j, none⟩ = wr.cell? ⟨w.heap.size + 1, j, none⟩ := fun j => hb.cell (p := ⟨w.heap.size + 1, j, none⟩) (by show w.heap.size + 1 < _; omega)
  exact ⟨h.old.trans (hb.mono (by omega)), Nat.le_trans z hb.size, (c0 _).trans h.p0, (c0 _).trans h.p1, (c0 _).trans h.p2, (c0 _).trans h.p3, (c0 _).trans h.p4,
    (c1 _).trans h.f0, (c1 _).trans h.f1, (c1 _).trans h.f2, (c1 _).trans h.f3, (c1 _).trans h.f4⟩

/-- The check at place i. -/
def chkB (q s fr b : Int) (l : List Stp) : Nat → Bool
  | 0 => kindB q s
  | 1 => inB l.length 1 40
  | 2 => okTo l l.length
  | 3 => folTo l (l.length - 1)
  | _ => ordB 0 fr b 10000
def chkTo (q s fr b : Int) (l : List Stp) (k : Nat) : Bool := (List.range k).all (chkB q s fr b l)
theorem chkTo_five (q s fr b : Int) (l : List Stp) : chkTo q s fr b l 5 = pathB q s fr b l := by
  rw [← checks_path]
  simp [chkTo, List.range_succ, chkB, Bool.and_assoc]

set_option maxHeartbeats 2000000 in
theorem pathOk_any (hF : FollowSaid) (q s fr b : Int) (a : Option Addr) (b0 o cap : Nat) (l : List Stp) (w : World) (hl : l.length ≤ 1048576) (hs : StepsAt w a b0 o l) :
    Calls Tryd.prog 55 #[.agg #[.int .i64 q, .int .i64 s, .slice a l.length cap, .int .i64 fr, .int .i64 b]] w fun e w' => e = .returned (.bool (pathB q s fr b l)) ∧ Below w.heap.size w w' := by
  have H5 : Hid (chkTo q s fr b l 5 = pathB q s fr b l) := chkTo_five q s fr b l
  go_enter Tryd.func55, Tryd.ntmps55
  go_wp2
  go_loopw [9] (fun v wr => ∃ k : Nat, k ≤ 5 ∧ v = .int .i64 k ∧ Laid2 w wr q s fr b (.slice a l.length cap) ∧ chkTo q s fr b l k = true) (fun v _ => 5 - (intOf v).toNat)
  case atStart =>
    refine ⟨0, by omega, rfl, ⟨((Below.refl _ _).alloc (Nat.le_refl _) _).alloc (by simp) _, by simp, ?_, ?_, ?_, ?_, ?_, ?_, ?_, ?_, ?_, ?_⟩, rfl⟩
    all_goals simp [go_sem]
  case round =>
    obtain ⟨k, hk, rfl, hL, hgood⟩ := hrel
    have HG : Hid (chkTo q s fr b l k = true) := hgood
    clear hgood
    have step : ∀ v, chkB q s fr b l k = v → Hid (chkTo q s fr b l (k + 1) = v) := fun v hv => by
      show _ = _
      have := HG.out
      unfold chkTo at *
      rw [all_succ, this, hv]; simp
    have stop : k < 5 → chkB q s fr b l k = false → Hid (pathB q s fr b l = false) := fun h hv => by
      show _ = _
      rw [← H5.out]
      exact all_not h hv
    have p0 := hL.p0
    have p1 := hL.p1
    have p2 := hL.p2
    have p3 := hL.p3
    have p4 := hL.p4
    have hs1 := hs.below hL.old hs.lt
    rcases (show k = 0 ∨ k = 1 ∨ k = 2 ∨ k = 3 ∨ k = 4 ∨ k = 5 by omega) with rfl | rfl | rfl | rfl | rfl | rfl
    · have f := hL.f0
      cases hv : kindB q s with
      | false =>
        have G := stop (by omega) hv
        clear step stop
        go_wp2_with (go_at_call 65; refine (kindIsOk_any _ _ _ _ _ _ _ _).mono ?_; rintro e w2 ⟨rfl, hb2⟩)
        go_ret
        exact ⟨by rw [G.out]; rfl, (hL.below hb2).old⟩
      | true =>
        have G := step _ hv
        clear step stop
        go_wp2_with (go_at_call 65; refine (kindIsOk_any _ _ _ _ _ _ _ _).mono ?_; rintro e w2 ⟨rfl, hb2⟩)
        go_roundw
        case rel => exact ⟨1, by omega, by go_num, hL.below hb2, G.out⟩
        case measure => simp [intOf]
    · have f := hL.f1
      cases hv : inB l.length 1 40 with
      | false =>
        have G := stop (by omega) hv
        clear step stop
        go_wp2_with (go_at_call 66; refine (stepCount_any _ _ _ _ _ _ _ _ hl).mono ?_; rintro e w2 ⟨rfl, hb2⟩)
        go_ret
        exact ⟨by rw [G.out]; rfl, (hL.below hb2).old⟩
      | true =>
        have G := step _ hv
        clear step stop
        go_wp2_with (go_at_call 66; refine (stepCount_any _ _ _ _ _ _ _ _ hl).mono ?_; rintro e w2 ⟨rfl, hb2⟩)
        go_roundw
        case rel => exact ⟨2, by omega, by go_num, hL.below hb2, G.out⟩
        case measure => simp [intOf]
    · have f := hL.f2
      cases hv : okTo l l.length with
      | false =>
        have G := stop (by omega) hv
        clear step stop
        go_wp2_with (go_at_call 67; refine (stepsAreOk_any _ _ _ _ _ b0 o _ _ _ hl hs1).mono ?_; rintro e w2 ⟨rfl, hb2⟩)
        go_ret
        exact ⟨by rw [G.out]; rfl, (hL.below hb2).old⟩
      | true =>
        have G := step _ hv
        clear step stop
        go_wp2_with (go_at_call 67; refine (stepsAreOk_any _ _ _ _ _ b0 o _ _ _ hl hs1).mono ?_; rintro e w2 ⟨rfl, hb2⟩)
        go_roundw
        case rel => exact ⟨3, by omega, by go_num, hL.below hb2, G.out⟩
        case measure => simp [intOf]
    · have f := hL.f3
      cases hv : folTo l (l.length - 1) with
      | false =>
        have G := stop (by omega) hv
        clear step stop
        go_wp2_with (go_at_call 68; refine (hF _ _ _ _ _ b0 o _ _ _ hl hs1).mono ?_; rintro e w2 ⟨rfl, hb2⟩)
        go_ret
        exact ⟨by rw [G.out]; rfl, (hL.below hb2).old⟩
      | true =>
        have G := step _ hv
        clear step stop
        go_wp2_with (go_at_call 68; refine (hF _ _ _ _ _ b0 o _ _ _ hl hs1).mono ?_; rintro e w2 ⟨rfl, hb2⟩)
        go_roundw
        case rel => exact ⟨4, by omega, by go_num, hL.below hb2, G.out⟩
        case measure => simp [intOf]
    · have f := hL.f4
      cases hv : ordB 0 fr b 10000 with
      | false =>
        have G := stop (by omega) hv
        clear step stop
        go_wp2_with (go_at_call 69; refine (endIsOk_any _ _ _ _ _ _ _ _).mono ?_; rintro e w2 ⟨rfl, hb2⟩)
        go_ret
        exact ⟨by rw [G.out]; rfl, (hL.below hb2).old⟩
      | true =>
        have G := step _ hv
        clear step stop
        go_wp2_with (go_at_call 69; refine (endIsOk_any _ _ _ _ _ _ _ _).mono ?_; rintro e w2 ⟨rfl, hb2⟩)
        go_roundw
        case rel => exact ⟨5, by omega, by go_num, hL.below hb2, G.out⟩
        case measure => simp [intOf]
    · clear step stop
      go_wp2
      go_ret
      exact ⟨by rw [← H5.out, HG.out]; rfl, hL.old⟩
end Go.Proofs.YtlcblcoodabpeaaDoor
