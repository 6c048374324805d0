/- Joined texts: Data, StepInfo, Data2, LawData, SpanData, SpanMath, OwnMore, SpanBack, BoxP, PathKit, CloneS, FlightMath, NextData, Cls, SpanLeaf, IntsAt, SLeaf. -/
import Derived.WalkKit
import Derived.Deep.MidRow
import Derived.WalkSpells
import Derived.Maps.AppendAt
import Derived.BigQuiet
import Derived.Deep.RegionHeld3
import Derived.Test.YtgkebobmfagklaaRows
namespace Go.Proofs.Ytgkebobmfagklaa
open Go.RowKit

/-- A step, as numbers. -/
structure Stp where
  x : Int
  y : Int
  lo : Int
  hi : Int
  fr : Int
  by_ : Int
  ho : Bool

/-- Its cells. -/
abbrev Stp.cells (s : Stp) : List Value := [.int .i64 s.x, .int .i64 s.y, .int .i64 s.lo, .int .i64 s.hi, .int .i64 s.fr, .int .i64 s.by_, .bool s.ho]
/-- It as a value. -/
abbrev Stp.val (s : Stp) : Value := .agg #[.int .i64 s.x, .int .i64 s.y, .int .i64 s.lo, .int .i64 s.hi, .int .i64 s.fr, .int .i64 s.by_, .bool s.ho]
/-- The step of zeros. -/
def Stp.zero : Stp := ⟨0, 0, 0, 0, 0, 0, false⟩

/-- n is between a and b. -/
def inB (n a b : Int) : Bool := decide (a ≤ n) && decide (n ≤ b)
theorem inB_iff (n a b : Int) : inB n a b = true ↔ a ≤ n ∧ n ≤ b := by simp [inB]

/-- Ascending, from the least to the most. -/
def ordB (a b c d : Int) : Bool := decide (a ≤ b ∧ b ≤ c ∧ c ≤ d)
/-- A kind within its bounds. -/
def kindB (q s : Int) : Bool := decide (1 ≤ q ∧ q ≤ s ∧ s ≤ 50)
/-- A step within its bounds. -/
def stepB (x y lo hi fr by_ : Int) : Bool :=
  decide (0 ≤ x ∧ x ≤ 15 ∧ 0 ≤ y ∧ y ≤ 15 ∧ 0 ≤ lo ∧ lo ≤ hi ∧ hi ≤ 6 ∧ 0 ≤ fr ∧ fr ≤ by_ ∧ by_ ≤ 10000)
/-- Of two steps that are within their bounds: the second can stand behind the first. -/
def nextB (x y lo hi x' y' lo' hi' : Int) : Bool :=
  decide (-1 ≤ x - x' ∧ x - x' ≤ 1 ∧ -1 ≤ y - y' ∧ y - y' ≤ 1 ∧ (x ≠ x' ∨ y ≠ y') ∧ lo ≤ hi' ∧ lo' ≤ hi)

/-- A level in common. -/
def levB (lo hi lo' hi' : Int) : Bool := decide (lo ≤ hi') && decide (lo' ≤ hi)
/-- As the program asks it. -/
def folB (x y lo hi x' y' lo' hi' : Int) : Bool := !((x == x') && (y == y')) && inB (wrap64 (x - x')) (-1) 1 && inB (wrap64 (y - y')) (-1) 1 && levB lo hi lo' hi'

def Stp.okB (s : Stp) : Bool := stepB s.x s.y s.lo s.hi s.fr s.by_
def Stp.nextB (s t : Stp) : Bool := Go.Proofs.Ytgkebobmfagklaa.nextB s.x s.y s.lo s.hi t.x t.y t.lo t.hi

/-- The cells of a list of steps lie in block b from offset o on, seven each. -/
structure StepsAt (w : World) (a : Option Addr) (b o : Nat) (l : List Stp) : Prop where
  here : l ≠ [] → a = some ⟨b, o, none⟩
  lt : l ≠ [] → b < w.heap.size
  cell : ∀ (i : Nat) (s : Stp), l[i]? = some s → w.rangeAt b (o + i * 7) s.cells

theorem StepsAt.below {w w' : World} {a : Option Addr} {b o B : Nat} {l : List Stp} (h : StepsAt w a b o l) (hb : Below B w w') (hB : l ≠ [] → b < B) : StepsAt w' a b o l where
  here := h.here
  lt hl := Nat.lt_of_lt_of_le (h.lt hl) hb.size
  cell i s hi j v hv := by
    have hne : l ≠ [] := by intro e; subst e; simp at hi
    rw [hb.cell (p := ⟨b, o + i * 7 + j, none⟩) (hB hne)]
    exact h.cell i s hi j v hv

/-- The seven cells of the i-th step, as a walk asks for them. -/
theorem StepsAt.seven {w : World} {a : Option Addr} {b o : Nat} {l : List Stp} (h : StepsAt w a b o l) {i : Nat} {s : Stp} (hi : l[i]? = some s) :
    w.cell? ⟨b, o + i * 7, none⟩ = some (.int .i64 s.x) ∧ w.cell? ⟨b, o + i * 7 + 1, none⟩ = some (.int .i64 s.y) ∧ w.cell? ⟨b, o + i * 7 + 2, none⟩ = some (.int .i64 s.lo) ∧ w.cell? ⟨b, o + i * 7 + 3, none⟩ = some (.int .i64 s.hi) ∧
    w.cell? ⟨b, o + i * 7 + 4, none⟩ = some (.int .i64 s.fr) ∧ w.cell? ⟨b, o + i * 7 + 5, none⟩ = some (.int .i64 s.by_) ∧ w.cell? ⟨b, o + i * 7 + 6, none⟩ = some (.bool s.ho) := by
  have hr := h.cell i s hi
  exact ⟨hr 0 _ rfl, hr 1 _ rfl, hr 2 _ rfl, hr 3 _ rfl, hr 4 _ rfl, hr 5 _ rfl, hr 6 _ rfl⟩

theorem old_cells {W w1 : World} {B : Nat} (hb : Below B W w1) : (∀ b o, b < B → w1.cell? ⟨b, o, none⟩ = W.cell? ⟨b, o, none⟩) ∧ (∀ b o, b < B → w1.frozen? ⟨b, o, none⟩ = W.frozen? ⟨b, o, none⟩) :=
  ⟨fun b o h => hb.cell (p := ⟨b, o, none⟩) h, fun b o h => hb.frozen (p := ⟨b, o, none⟩) h⟩

theorem Stp.one (s : Stp) : (#[Value.int .i64 s.x, .int .i64 s.y, .int .i64 s.lo, .int .i64 s.hi, .int .i64 s.fr, .int .i64 s.by_, .bool s.ho].all (·.oneCell')) = true := by
  simp [Value.oneCell']

theorem there_of_block {w : World} {b : Nat} {C : Array Value} {t : TypeId} (hb : w.heap[b]? = some (.cells C t (0, 0))) (o n : Nat) (h : o + n ≤ C.size) : w.there b o n := fun j hj =>
  ⟨by rw [cell_of_row w b (o + j) C t _ hb]; simp; omega, frozen_of_row w b _ C t hb⟩

theorem there_below {w w' : World} {B b o n : Nat} (h : w.there b o n) (hb : Below B w w') (hB : b < B) : w'.there b o n := fun j hj =>
  ⟨by rw [hb.cell (p := ⟨b, o + j, none⟩) hB]; exact (h j hj).1, by rw [hb.frozen (p := ⟨b, o + j, none⟩) hB]; exact (h j hj).2⟩

theorem range_below {w w' : World} {B b o : Nat} {cs : List Value} (h : w.rangeAt b o cs) (hb : Below B w w') (hB : b < B) : w'.rangeAt b o cs := fun j v hv => by
  rw [hb.cell (p := ⟨b, o + j, none⟩) hB]; exact h j v hv

theorem below_setCells {B b : Nat} (hB : B ≤ b) : ∀ (vs : List Value) (o : Nat) (a w : World), Below B a w → Below B a (w.setCells b o vs)
  | [], _, _, _, h => h
  | v :: r, o, a, w, h => by
    rw [World.setCells]
    exact below_setCells hB r (o + 1) a _ (h.setCell (p := ⟨b, o, none⟩) hB v)

theorem size_setCells (b : Nat) : ∀ (vs : List Value) (o : Nat) (w : World), (w.setCells b o vs).heap.size = w.heap.size
  | [], _, _ => rfl
  | v :: r, o, w => by
    rw [World.setCells, size_setCells b r (o + 1)]
    simp [World.setCell]

theorem lt_of_there {w : World} {b o n : Nat} (h : w.there b o n) (hn : 0 < n) : b < w.heap.size := by
  obtain ⟨u, hu⟩ := Option.isSome_iff_exists.1 (h 0 hn).1
  exact World.block_lt_of_cell? w _ hu

theorem StepsAt.set {w : World} {a : Option Addr} {b o : Nat} {l : List Stp} (h : StepsAt w a b o l) {p : Addr} (hp : p.block ≠ b) (v : Value) : StepsAt (w.setCell p v) a b o l where
  here := h.here
  lt hl := by have := h.lt hl; simpa [World.setCell] using this
  cell i s hi j u hu := by
    rw [World.cell?_setCell_other _ _ _ _ (by intro e; exact hp (by rw [e]))]
    exact h.cell i s hi j u hu

theorem StepsAt.alloc {w : World} {a : Option Addr} {b o : Nat} {l : List Stp} (h : StepsAt w a b o l) (ob : Obj) : StepsAt (w.alloc ob) a b o l where
  here := h.here
  lt hl := by have := h.lt hl; simp; omega
  cell i s hi := World.rangeAt_alloc (h.cell i s hi) ob

/-- The i-th step is within its bounds, and can stand behind the one ahead of it. -/
def goodS (l : List Stp) (i : Nat) : Bool :=
  stepB (l.getD i .zero).x (l.getD i .zero).y (l.getD i .zero).lo (l.getD i .zero).hi (l.getD i .zero).fr (l.getD i .zero).by_ &&
    (decide (i = 0) || folB (l.getD (i - 1) .zero).x (l.getD (i - 1) .zero).y (l.getD (i - 1) .zero).lo (l.getD (i - 1) .zero).hi (l.getD i .zero).x (l.getD i .zero).y (l.getD i .zero).lo (l.getD i .zero).hi)
/-- So are the first k. -/
def goodTo (l : List Stp) (k : Nat) : Bool := (List.range k).all (goodS l)
theorem goodTo_zero (l : List Stp) : goodTo l 0 = true := rfl
theorem goodTo_succ (l : List Stp) (k : Nat) : goodTo l (k + 1) = (goodTo l k && goodS l k) := by
  simp [goodTo, List.range_succ, List.all_append]
theorem goodTo_le {l : List Stp} {k n : Nat} (h : goodTo l n = true) (hk : k ≤ n) : goodTo l k = true := by
  simp [goodTo] at *; intro i hi; exact h i (by omega)
theorem goodTo_not {l : List Stp} {k n : Nat} (hk : k < n) (h : goodS l k = false) : goodTo l n = false := by
  cases e : goodTo l n with
  | false => rfl
  | true =>
    have := goodTo_le e (show k + 1 ≤ n by omega)
    rw [goodTo_succ, h] at this
    simp at this
/-- A path is ok. -/
def pathB (q s fr b : Int) (l : List Stp) : Bool := kindB q s && inB l.length 1 40 && inB fr 0 b && decide (b ≤ 10000) && goodTo l l.length

theorem goodS_bad {l : List Stp} {k : Nat} {t : Stp} (ht : l.getD k .zero = t) (h : stepB t.x t.y t.lo t.hi t.fr t.by_ = false) : goodS l k = false := by
  unfold goodS; rw [ht, h]; rfl
theorem goodS_first {l : List Stp} {t : Stp} (ht : l.getD 0 .zero = t) (h : stepB t.x t.y t.lo t.hi t.fr t.by_ = true) : goodS l 0 = true := by
  unfold goodS; rw [ht, h]; rfl
theorem goodS_next {l : List Stp} {m : Nat} {p t : Stp} {v : Bool} (ht : l.getD (m + 1) .zero = t) (hp : l.getD m .zero = p) (h : stepB t.x t.y t.lo t.hi t.fr t.by_ = true)
    (hf : folB p.x p.y p.lo p.hi t.x t.y t.lo t.hi = v) : goodS l (m + 1) = v := by
  unfold goodS; rw [Nat.add_sub_cancel, ht, hp, h, hf]; simp
/-- What is left of a measure behind n more. -/
def leftB (left : Int) (n : Nat) : Int := if left - n < 0 then -1 else left - n
theorem leftB_left (left : Int) (n : Nat) (h0 : -1 ≤ left) (h1 : left ≤ 1048576) : -1 ≤ leftB left n ∧ leftB left n ≤ 1048576 := by
  unfold leftB; split <;> omega
end Go.Proofs.Ytgkebobmfagklaa

namespace Go.Proofs.Ytgkebobmfagklaa
open Go.RowKit

theorem step_info : (Try.prog.info? 75).map (fun i => (i.zero, i.size, i.bytes)) = some (some (.agg #[.int .i64 0, .int .i64 0, .int .i64 0, .int .i64 0, .int .i64 0, .int .i64 0, .bool false]), 7, 56) := by kernel_rfl

theorem step_size7 : (Try.prog.info? 75).map (·.size) = some 7 := by kernel_rfl
theorem step_size (s : Stp) : (Try.prog.info? 75).map (·.size) = some (Array.size #[Value.int .i64 s.x, .int .i64 s.y, .int .i64 s.lo, .int .i64 s.hi, .int .i64 s.fr, .int .i64 s.by_, .bool s.ho]) := step_size7
/-- A step stored whole. -/
theorem store_step {ops : Array Oper} {rest : List Oper} {op : Oper} {a : Act} {w : World} {Q : Exit → Act → World → Prop} (hgd : op.guard = none) (x y : Operand) (ho : op.op = .store 75 x y)
    (b o : Nat) (s : Stp) (hx : a.eval x = .pointer (some ⟨b, o, none⟩)) (hy : a.eval y = .agg #[.int .i64 s.x, .int .i64 s.y, .int .i64 s.lo, .int .i64 s.hi, .int .i64 s.fr, .int .i64 s.by_, .bool s.ho])
    (ht : w.there b o 7) (h : wpList Try.prog ops Q rest (a.put op.dst undef) (w.setCells b o s.cells)) : wpList Try.prog ops Q (op :: rest) a w :=
  wpList_store_mid hgd 75 x y ho b o _ hx hy ht (step_size s) s.one h
end Go.Proofs.Ytgkebobmfagklaa

namespace Go.Proofs.Ytgkebobmfagklaa
open Go.RowKit

/-- The i-th step is within its bounds. -/
def okS (l : List Stp) (i : Nat) : Bool := stepB (l.getD i .zero).x (l.getD i .zero).y (l.getD i .zero).lo (l.getD i .zero).hi (l.getD i .zero).fr (l.getD i .zero).by_
def okTo (l : List Stp) (k : Nat) : Bool := (List.range k).all (okS l)
/-- The (i + 1)-th step follows the i-th, as the program asks it. -/
def folS (l : List Stp) (i : Nat) : Bool :=
  folB (l.getD (i + 1) .zero).x (l.getD (i + 1) .zero).y (l.getD (i + 1) .zero).lo (l.getD (i + 1) .zero).hi (l.getD i .zero).x (l.getD i .zero).y (l.getD i .zero).lo (l.getD i .zero).hi
def folTo (l : List Stp) (k : Nat) : Bool := (List.range k).all (folS l)

theorem all_succ (f : Nat → Bool) (k : Nat) : (List.range (k + 1)).all f = ((List.range k).all f && f k) := by
  simp [List.range_succ, List.all_append]
theorem all_not {f : Nat → Bool} {k n : Nat} (hk : k < n) (h : f k = false) : (List.range n).all f = false := by
  simp; exact ⟨k, hk, h⟩

theorem wrap64_small (x : Int) (h0 : -100 ≤ x) (h1 : x ≤ 100) : wrap64 x = x := by
  simp only [wrap64]; omega

theorem fol_comm {p t : Stp} (hp : stepB p.x p.y p.lo p.hi p.fr p.by_ = true) (ht : stepB t.x t.y t.lo t.hi t.fr t.by_ = true) :
    folB t.x t.y t.lo t.hi p.x p.y p.lo p.hi = folB p.x p.y p.lo p.hi t.x t.y t.lo t.hi := by
  simp only [stepB, decide_eq_true_eq] at hp ht
  unfold folB inB levB
  rw [wrap64_small (t.x - p.x) (by omega) (by omega), wrap64_small (t.y - p.y) (by omega) (by omega), wrap64_small (p.x - t.x) (by omega) (by omega), wrap64_small (p.y - t.y) (by omega) (by omega)]
  rw [Bool.eq_iff_iff]
  simp
  omega

/-- The program's five checks come to the specification's test. -/
theorem checks_path (q s fr b : Int) (l : List Stp) :
    (kindB q s && inB l.length 1 40 && okTo l l.length && folTo l (l.length - 1) && ordB 0 fr b 10000) = pathB q s fr b l := by
  have e1 : ordB 0 fr b 10000 = (inB fr 0 b && decide (b ≤ 10000)) := by rw [Bool.eq_iff_iff]; simp [ordB, inB]; omega
  have e2 : (okTo l l.length && folTo l (l.length - 1)) = goodTo l l.length := by
    rw [Bool.eq_iff_iff]
    simp only [okTo, folTo, goodTo, Bool.and_eq_true, List.all_eq_true, List.mem_range]
    constructor
    · rintro ⟨h1, h2⟩ i hi
      unfold goodS
      have k1 : stepB _ _ _ _ _ _ = true := h1 i hi
      rw [k1]
      cases i with
      | zero => rfl
      | succ m =>
        have k2 : stepB _ _ _ _ _ _ = true := h1 m (by omega)
        have k3 : folB _ _ _ _ _ _ _ _ = true := h2 m (by omega)
        rw [fol_comm k2 k1] at k3
        simp only [Nat.add_sub_cancel]
        rw [k3]; simp
    · intro h
      have h1 : ∀ i, i < l.length → okS l i = true := fun i hi => by
        have := h i hi
        unfold goodS at this
        exact (Bool.and_eq_true_iff.1 this).1
      refine ⟨h1, fun i hi => ?_⟩
      have := (Bool.and_eq_true_iff.1 (h (i + 1) (by omega))).2
      simp only [Nat.add_sub_cancel] at this
      have k0 : decide (i + 1 = 0) = false := by simp
      rw [k0, Bool.false_or] at this
      unfold folS
      rw [fol_comm (h1 i (by omega)) (h1 (i + 1) (by omega))]
      exact this
  unfold pathB
  rw [e1, ← e2]
  cases kindB q s <;> cases inB l.length 1 40 <;> cases okTo l l.length <;> cases folTo l (l.length - 1) <;> cases inB fr 0 b <;> cases decide (b ≤ 10000) <;> rfl
end Go.Proofs.Ytgkebobmfagklaa

namespace Go.Proofs.Ytgkebobmfagklaa
open Go.RowKit

def lowB (fr : Int) (l : List Stp) (k : Nat) : Int := if k < l.length then (l.getD k .zero).fr else fr
def highB (b : Int) (l : List Stp) (k : Nat) : Int := if k < l.length then (l.getD k .zero).by_ else b
def mostB (s : Int) (l : List Stp) (k : Nat) : Int := if (l.getD k .zero).ho then 10000 else s
/-- The k-th tick is within its window. -/
def winS (fr b : Int) (l : List Stp) (zs : List Int) (k : Nat) : Bool := inB (zs.getD k 0) (lowB fr l k) (highB b l k)
/-- From the k-th tick to the next there are as many ticks as there may be. -/
def stayS (q s : Int) (l : List Stp) (zs : List Int) (k : Nat) : Bool := inB (zs.getD (k + 1) 0 - zs.getD k 0) q (mostB s l k)
/-- As the specification asks it of the k-th tick. -/
def tickS (q s fr b : Int) (l : List Stp) (zs : List Int) (k : Nat) : Bool := winS fr b l zs k && (decide (k = 0) || stayS q s l zs (k - 1))
def tickTo (q s fr b : Int) (l : List Stp) (zs : List Int) (k : Nat) : Bool := (List.range k).all (tickS q s fr b l zs)
def winTo (fr b : Int) (l : List Stp) (zs : List Int) (k : Nat) : Bool := (List.range k).all (winS fr b l zs)
def stayTo (q s : Int) (l : List Stp) (zs : List Int) (k : Nat) : Bool := (List.range k).all (stayS q s l zs)
/-- A flight keeps to a path. -/
def lawB (q s fr b : Int) (l : List Stp) (zs : List Int) : Bool := pathB q s fr b l && decide (zs.length = l.length + 1) && tickTo q s fr b l zs (l.length + 1)

theorem ticks_parts (q s fr b : Int) (l : List Stp) (zs : List Int) (n : Nat) : (winTo fr b l zs (n + 1) && stayTo q s l zs n) = tickTo q s fr b l zs (n + 1) := by
  rw [Bool.eq_iff_iff]
  simp only [winTo, stayTo, tickTo, Bool.and_eq_true, List.all_eq_true, List.mem_range]
  constructor
  · rintro ⟨h1, h2⟩ i hi
    unfold tickS
    rw [h1 i hi]
    cases i with
    | zero => rfl
    | succ m =>
      have k := h2 m (by omega)
      simp only [Nat.add_sub_cancel]
      rw [k]; simp
  · intro h
    refine ⟨fun i hi => (Bool.and_eq_true_iff.1 (h i hi)).1, fun i hi => ?_⟩
    have := (Bool.and_eq_true_iff.1 (h (i + 1) (by omega))).2
    simpa using this

/-- Of a path that is ok: its windows lie between 0 and 10000. -/
theorem bounds_ok {q s fr b : Int} {l : List Stp} (h : pathB q s fr b l = true) (k : Nat) : 0 ≤ lowB fr l k ∧ highB b l k ≤ 10000 := by
  simp only [pathB, Bool.and_eq_true, decide_eq_true_eq] at h
  obtain ⟨⟨⟨⟨_, _⟩, h3⟩, h4⟩, h5⟩ := h
  have h3' := (inB_iff _ _ _).1 h3
  unfold lowB highB
  by_cases hk : k < l.length
  · rw [if_pos hk, if_pos hk]
    simp only [goodTo, List.all_eq_true, List.mem_range] at h5
    have := (Bool.and_eq_true_iff.1 (h5 k hk)).1
    simp only [stepB, decide_eq_true_eq] at this
    omega
  · rw [if_neg hk, if_neg hk]
    omega
theorem win_range {q s fr b : Int} {l : List Stp} {zs : List Int} {k : Nat} (h : pathB q s fr b l = true) (hw : winS fr b l zs k = true) : 0 ≤ zs.getD k 0 ∧ zs.getD k 0 ≤ 10000 := by
  have h1 := bounds_ok h k
  have h2 := (inB_iff _ _ _).1 hw
  omega
theorem path_len {q s fr b : Int} {l : List Stp} (h : pathB q s fr b l = true) : 1 ≤ l.length ∧ l.length ≤ 40 := by
  simp only [pathB, Bool.and_eq_true, decide_eq_true_eq] at h
  have := (inB_iff _ _ _).1 h.1.1.1.2
  omega
theorem tickTo_zero (q s fr b : Int) (l : List Stp) (zs : List Int) : tickTo q s fr b l zs 0 = true := rfl
theorem tickTo_succ {q s fr b : Int} {l : List Stp} {zs : List Int} {k : Nat} (h : tickTo q s fr b l zs k = true) : tickTo q s fr b l zs (k + 1) = tickS q s fr b l zs k := by
  unfold tickTo at *; rw [all_succ, h]; simp
theorem tickTo_win {q s fr b : Int} {l : List Stp} {zs : List Int} {k i : Nat} (h : tickTo q s fr b l zs k = true) (hi : i < k) : winS fr b l zs i = true := by
  simp only [tickTo, List.all_eq_true, List.mem_range] at h
  exact (Bool.and_eq_true_iff.1 (h i hi)).1
theorem tickTo_not {q s fr b : Int} {l : List Stp} {zs : List Int} {k n : Nat} (hk : k < n) (h : tickS q s fr b l zs k = false) : tickTo q s fr b l zs n = false := all_not hk h
end Go.Proofs.Ytgkebobmfagklaa

namespace Go.Proofs.Ytgkebobmfagklaa
open Go.RowKit

def mxB (a b : Int) : Int := if b < a then a else b
def mnB (a b : Int) : Int := if a < b then a else b
theorem mxB_le (a b : Int) : a ≤ mxB a b ∧ b ≤ mxB a b ∧ (mxB a b = a ∨ mxB a b = b) := by unfold mxB; split <;> omega
theorem mnB_le (a b : Int) : mnB a b ≤ a ∧ mnB a b ≤ b ∧ (mnB a b = a ∨ mnB a b = b) := by unfold mnB; split <;> omega

/-- Forward: the least and the greatest k-th tick, by the ticks ahead of it. -/
def fwdS (q s fr b : Int) (l : List Stp) : Nat → Int × Int
  | 0 => (lowB fr l 0, highB b l 0)
  | k + 1 => (mxB (lowB fr l (k + 1)) ((fwdS q s fr b l k).1 + q), mnB (highB b l (k + 1)) ((fwdS q s fr b l k).2 + mostB s l k))
/-- Back: j ticks ahead of the last one. -/
def bwdS (q s fr b : Int) (l : List Stp) (n : Nat) : Nat → Int × Int
  | 0 => fwdS q s fr b l n
  | j + 1 => (mxB (fwdS q s fr b l (n - (j + 1))).1 ((bwdS q s fr b l n j).1 - mostB s l (n - (j + 1))), mnB (fwdS q s fr b l (n - (j + 1))).2 ((bwdS q s fr b l n j).2 - q))
def someB (x : Int × Int) : Bool := decide (x.1 ≤ x.2)
def fwdTo (q s fr b : Int) (l : List Stp) (k : Nat) : Bool := (List.range k).all fun i => someB (fwdS q s fr b l i)
def bwdTo (q s fr b : Int) (l : List Stp) (n k : Nat) : Bool := (List.range k).all fun i => someB (bwdS q s fr b l n i)
/-- There is a flight along the path. -/
def spanB (q s fr b : Int) (l : List Stp) : Bool := fwdTo q s fr b l (l.length + 1) && bwdTo q s fr b l l.length (l.length + 1)
/-- The spans. -/
def spansL (q s fr b : Int) (l : List Stp) : List (Int × Int) := if spanB q s fr b l then (List.range (l.length + 1)).map fun k => bwdS q s fr b l l.length (l.length - k) else []

abbrev spanC (x : Int × Int) : List Value := [.int .i64 x.1, .int .i64 x.2]
/-- The cells of a list of spans. -/
def spanCells (xs : List (Int × Int)) : List Value := xs.flatMap spanC
theorem spanCells_snoc (xs : List (Int × Int)) (x : Int × Int) : spanCells (xs ++ [x]) = spanCells xs ++ spanC x := by simp [spanCells]
theorem spanCells_length (xs : List (Int × Int)) : (spanCells xs).length = xs.length * 2 := by
  induction xs with
  | nil => rfl
  | cons x xs ih => simp only [spanCells, List.flatMap_cons, List.length_append] at *; rw [ih]; simp; omega
theorem spanCells_get (xs : List (Int × Int)) : ∀ (i : Nat) (x : Int × Int), xs[i]? = some x → (spanCells xs)[i * 2]? = some (.int .i64 x.1) ∧ (spanCells xs)[i * 2 + 1]? = some (.int .i64 x.2) := by
  induction xs with
  | nil => intro i x h; simp at h
  | cons y ys ih =>
    intro i x h
    cases i with
    | zero => simp at h; subst h; simp [spanCells]
    | succ m =>
      simp at h
      obtain ⟨h1, h2⟩ := ih m x h
      have e : spanCells (y :: ys) = .int .i64 y.1 :: .int .i64 y.2 :: spanCells ys := by simp [spanCells]
      rw [e]
      refine ⟨?_, ?_⟩
      · rw [show (m + 1) * 2 = m * 2 + 1 + 1 by omega]; simpa using h1
      · rw [show (m + 1) * 2 + 1 = (m * 2 + 1) + 1 + 1 by omega]; simpa using h2

/-- The first k spans, forward. -/
def fwdL (q s fr b : Int) (l : List Stp) (k : Nat) : List (Int × Int) := (List.range k).map (fwdS q s fr b l)
theorem fwdL_succ (q s fr b : Int) (l : List Stp) (k : Nat) : fwdL q s fr b l (k + 1) = fwdL q s fr b l k ++ [fwdS q s fr b l k] := by simp [fwdL, List.range_succ]
theorem fwdL_length (q s fr b : Int) (l : List Stp) (k : Nat) : (fwdL q s fr b l k).length = k := by simp [fwdL]
theorem fwdL_get (q s fr b : Int) (l : List Stp) (k i : Nat) (h : i < k) : (fwdL q s fr b l k)[i]? = some (fwdS q s fr b l i) := by simp [fwdL, h]

theorem fwd_range {q s fr b : Int} {l : List Stp} (h : pathB q s fr b l = true) (k : Nat) : 0 ≤ (fwdS q s fr b l k).1 ∧ (fwdS q s fr b l k).2 ≤ 10000 := by
  have hb := bounds_ok h k
  cases k with
  | zero => exact hb
  | succ m =>
    have h1 := mxB_le (lowB fr l (m + 1)) ((fwdS q s fr b l m).1 + q)
    have h2 := mnB_le (highB b l (m + 1)) ((fwdS q s fr b l m).2 + mostB s l m)
    simp only [fwdS]
    omega
theorem kind_range {q s fr b : Int} {l : List Stp} (h : pathB q s fr b l = true) : 1 ≤ q ∧ q ≤ s ∧ s ≤ 50 := by
  simp only [pathB, Bool.and_eq_true, decide_eq_true_eq, kindB] at h
  exact h.1.1.1.1
theorem most_range {q s fr b : Int} {l : List Stp} (h : pathB q s fr b l = true) (k : Nat) : 1 ≤ mostB s l k ∧ mostB s l k ≤ 10000 := by
  have := kind_range h
  unfold mostB; split <;> omega
theorem fwdTo_at {q s fr b : Int} {l : List Stp} {k i : Nat} (h : fwdTo q s fr b l k = true) (hi : i < k) : (fwdS q s fr b l i).1 ≤ (fwdS q s fr b l i).2 := by
  simp only [fwdTo, List.all_eq_true, List.mem_range, someB, decide_eq_true_eq] at h
  exact h i hi
theorem fwdTo_succ {q s fr b : Int} {l : List Stp} {k : Nat} (h : fwdTo q s fr b l k = true) : fwdTo q s fr b l (k + 1) = someB (fwdS q s fr b l k) := by
  unfold fwdTo at *; rw [all_succ, h]; simp
theorem fwdTo_not {q s fr b : Int} {l : List Stp} {k n : Nat} (hk : k < n) (h : someB (fwdS q s fr b l k) = false) : fwdTo q s fr b l n = false := all_not hk h
end Go.Proofs.Ytgkebobmfagklaa

namespace Go.Proofs.Ytgkebobmfagklaa
open Go.RowKit

theorem most_quick {q s fr b : Int} {l : List Stp} (h : pathB q s fr b l = true) (k : Nat) : q ≤ mostB s l k := by
  have := kind_range h
  unfold mostB; split <;> omega

theorem bwd_in {q s fr b : Int} {l : List Stp} (hp : pathB q s fr b l = true) {n : Nat} (hf : fwdTo q s fr b l (n + 1) = true) : ∀ j, j ≤ n →
    (bwdS q s fr b l n j).1 ≤ (bwdS q s fr b l n j).2 ∧ (fwdS q s fr b l (n - j)).1 ≤ (bwdS q s fr b l n j).1 ∧ (bwdS q s fr b l n j).2 ≤ (fwdS q s fr b l (n - j)).2
  | 0, _ => by
    have := fwdTo_at hf (show n < n + 1 by omega)
    exact ⟨this, Int.le_refl _, Int.le_refl _⟩
  | j + 1, hj => by
    obtain ⟨h1, h2, h3⟩ := bwd_in hp hf j (by omega)
    obtain ⟨k, hk⟩ : ∃ k, n - (j + 1) = k ∧ n - j = k + 1 := ⟨n - (j + 1), rfl, by omega⟩
    rw [hk.2] at h2 h3
    have h0 := fwdTo_at hf (show k < n + 1 by omega)
    have hm := most_quick hp k
    simp only [fwdS] at h2 h3
    have m1 := mxB_le (lowB fr l (k + 1)) ((fwdS q s fr b l k).1 + q)
    have m2 := mnB_le (highB b l (k + 1)) ((fwdS q s fr b l k).2 + mostB s l k)
    simp only [bwdS]
    rw [hk.1]
    have m3 := mxB_le (fwdS q s fr b l k).1 ((bwdS q s fr b l n j).1 - mostB s l k)
    have m4 := mnB_le (fwdS q s fr b l k).2 ((bwdS q s fr b l n j).2 - q)
    refine ⟨?_, ?_, ?_⟩ <;> omega

theorem bwd_all {q s fr b : Int} {l : List Stp} (hp : pathB q s fr b l = true) {n : Nat} (hf : fwdTo q s fr b l (n + 1) = true) {k : Nat} (hk : k ≤ n + 1) : bwdTo q s fr b l n k = true := by
  unfold bwdTo
  rw [List.all_eq_true]
  intro i hi
  have := (bwd_in hp hf i (by have := List.mem_range.1 hi; omega)).1
  simpa [someB] using this

theorem span_fwd {q s fr b : Int} {l : List Stp} (hp : pathB q s fr b l = true) : spanB q s fr b l = fwdTo q s fr b l (l.length + 1) := by
  unfold spanB
  cases h : fwdTo q s fr b l (l.length + 1) with
  | false => rfl
  | true => rw [bwd_all hp h (Nat.le_refl _)]; rfl

/-- Windows within the ticks that there are: of a path that is ok, or of one that is ok but for its windows. -/
structure Wide (q s fr b : Int) (l : List Stp) : Prop where
  kind : 1 ≤ q ∧ q ≤ s ∧ s ≤ 50
  len : 1 ≤ l.length ∧ l.length ≤ 40
  win : ∀ k, 0 ≤ lowB fr l k ∧ highB b l k ≤ 10000
theorem Wide.of {q s fr b : Int} {l : List Stp} (h : pathB q s fr b l = true) : Wide q s fr b l := ⟨kind_range h, path_len h, bounds_ok h⟩
theorem Wide.fwd_range {q s fr b : Int} {l : List Stp} (h : Wide q s fr b l) (k : Nat) : 0 ≤ (fwdS q s fr b l k).1 ∧ (fwdS q s fr b l k).2 ≤ 10000 := by
  have hb := h.win k
  cases k with
  | zero => exact hb
  | succ m =>
    have h1 := mxB_le (lowB fr l (m + 1)) ((fwdS q s fr b l m).1 + q)
    have h2 := mnB_le (highB b l (m + 1)) ((fwdS q s fr b l m).2 + mostB s l m)
    simp only [fwdS]
    omega
theorem Wide.most_range {q s fr b : Int} {l : List Stp} (h : Wide q s fr b l) (k : Nat) : 1 ≤ mostB s l k ∧ mostB s l k ≤ 10000 := by
  have := h.kind
  unfold mostB; split <;> omega
theorem Wide.quick {q s fr b : Int} {l : List Stp} (h : Wide q s fr b l) (k : Nat) : q ≤ mostB s l k := by
  have := h.kind
  unfold mostB; split <;> omega
theorem Wide.bwd_in {q s fr b : Int} {l : List Stp} (hp : Wide q s fr b l) {n : Nat} (hf : fwdTo q s fr b l (n + 1) = true) : ∀ j, j ≤ n →
    (bwdS q s fr b l n j).1 ≤ (bwdS q s fr b l n j).2 ∧ (fwdS q s fr b l (n - j)).1 ≤ (bwdS q s fr b l n j).1 ∧ (bwdS q s fr b l n j).2 ≤ (fwdS q s fr b l (n - j)).2
  | 0, _ => by
    have := fwdTo_at hf (show n < n + 1 by omega)
    exact ⟨this, Int.le_refl _, Int.le_refl _⟩
  | j + 1, hj => by
    obtain ⟨h1, h2, h3⟩ := hp.bwd_in hf j (by omega)
    obtain ⟨k, hk⟩ : ∃ k, n - (j + 1) = k ∧ n - j = k + 1 := ⟨n - (j + 1), rfl, by omega⟩
    rw [hk.2] at h2 h3
    have h0 := fwdTo_at hf (show k < n + 1 by omega)
    have hm := hp.quick k
    simp only [fwdS] at h2 h3
    have m1 := mxB_le (lowB fr l (k + 1)) ((fwdS q s fr b l k).1 + q)
    have m2 := mnB_le (highB b l (k + 1)) ((fwdS q s fr b l k).2 + mostB s l k)
    simp only [bwdS]
    rw [hk.1]
    have m3 := mxB_le (fwdS q s fr b l k).1 ((bwdS q s fr b l n j).1 - mostB s l k)
    have m4 := mnB_le (fwdS q s fr b l k).2 ((bwdS q s fr b l n j).2 - q)
    refine ⟨?_, ?_, ?_⟩ <;> omega
theorem Wide.span_fwd {q s fr b : Int} {l : List Stp} (hp : Wide q s fr b l) : spanB q s fr b l = fwdTo q s fr b l (l.length + 1) := by
  unfold spanB
  cases h : fwdTo q s fr b l (l.length + 1) with
  | false => rfl
  | true =>
    have : bwdTo q s fr b l l.length (l.length + 1) = true := by
      unfold bwdTo
      rw [List.all_eq_true]
      intro i hi
      have := (hp.bwd_in h i (by have := List.mem_range.1 hi; omega)).1
      simpa [someB] using this
    rw [this]; rfl

/-- What FlySpans tells. -/
def flyL (q s fr b : Int) (l : List Stp) : List (Int × Int) := if pathB q s fr b l then spansL q s fr b l else []
def flyB (q s fr b : Int) (l : List Stp) : Bool := pathB q s fr b l && spanB q s fr b l
end Go.Proofs.Ytgkebobmfagklaa

namespace Go.Proofs.Ytgkebobmfagklaa
open Go.RowKit

theorem blk2 {w : World} {B : Nat} {x y : Value} {t : TypeId} (h : w.heap[B]? = some (.cells #[x, y] t (0, 0))) : w.cell? ⟨B, 0, none⟩ = some x ∧ w.cell? ⟨B, 1, none⟩ = some y ∧ ∀ j, w.frozen? ⟨B, j, none⟩ = false :=
  ⟨by rw [cell_of_row w B 0 _ _ _ h]; rfl, by rw [cell_of_row w B 1 _ _ _ h]; rfl, fun j => frozen_of_row w B j _ _ h⟩
theorem blk2_after {W w' : World} {x y : Value} {t : TypeId} (hb : Below (W.alloc (.cells #[x, y] t)).heap.size (W.alloc (.cells #[x, y] t)) w') : w'.heap[W.heap.size]? = some (.cells #[x, y] t (0, 0)) :=
  (hb.block W.heap.size (by simp)).trans (heap_alloc_new W _)
theorem blk2_after_drew {W w' : World} {x y : Value} {t : TypeId} (hb : Below (W.alloc (.cells #[x, y] t)).drew.heap.size (W.alloc (.cells #[x, y] t)).drew w') : w'.heap[W.heap.size]? = some (.cells #[x, y] t (0, 0)) :=
  blk2_after ⟨hb.os, hb.tape, hb.output, hb.size, hb.block⟩
theorem blk2_after2 {W w' : World} {x y : Value} {t : TypeId} (hb : Below ((W.alloc (.cells #[x, y] t)).alloc (.cells #[x, y] t)).heap.size ((W.alloc (.cells #[x, y] t)).alloc (.cells #[x, y] t)) w') :
    w'.heap[W.heap.size]? = some (.cells #[x, y] t (0, 0)) ∧ w'.heap[W.heap.size + 1]? = some (.cells #[x, y] t (0, 0)) := by
  refine ⟨(hb.block W.heap.size (by simp; omega)).trans ((Below.heap_alloc _ _ _ (by simp)).trans (heap_alloc_new W _)), ?_⟩
  have h := blk2_after hb
  rwa [World.size_alloc] at h
theorem blk2_kept {W w' : World} {B : Nat} {x y : Value} {t : TypeId} (h : W.heap[B]? = some (.cells #[x, y] t (0, 0))) (hb : Below W.heap.size W w') : w'.heap[B]? = some (.cells #[x, y] t (0, 0)) :=
  (hb.block B (lt_of_block h)).trans h
theorem blk2_set0 {w : World} {B : Nat} {x y : Value} {t : TypeId} (h : w.heap[B]? = some (.cells #[x, y] t (0, 0))) (u : Value) : (w.setCell ⟨B, 0, none⟩ u).heap[B]? = some (.cells #[u, y] t (0, 0)) := by
  rw [heap_setCell_same w B 0 _ _ _ h]; rfl
theorem blk2_set1 {w : World} {B : Nat} {x y : Value} {t : TypeId} (h : w.heap[B]? = some (.cells #[x, y] t (0, 0))) (u : Value) : (w.setCell ⟨B, 1, none⟩ u).heap[B]? = some (.cells #[x, u] t (0, 0)) := by
  rw [heap_setCell_same w B 1 _ _ _ h]; rfl

theorem owns_base {w : World} {base e size n : Nat} {v : Value} {xs : List Value} (h : w.ownsRow base e size v n xs) : ∀ k, v.ownBlock = some k → base ≤ k := by
  intro k hk
  rcases h.2 with ⟨rfl, _⟩ | ⟨g, cap, cur, rfl, hg, _⟩
  · simp [Value.ownBlock] at hk
  · simp [Value.ownBlock] at hk; omega
theorem owns_empty {w : World} {base e size : Nat} (hb : base ≤ w.heap.size) : (w.alloc (.cells #[] e)).ownsRow base e size (.slice (some ⟨w.heap.size, 0, none⟩) 0 0) 0 [] := by
  have h := World.ownsRow_lit (base := base) (e := e) (size := size) w #[] 0 hb (by unfold maxLen; omega) (by simp)
  exact h
theorem two_new (w : World) (x y : Value) (t : TypeId) : ∀ (j : Nat) (u : Value), [x, y][j]? = some u → (w.alloc (.cells #[x, y] t)).cell? ((⟨w.heap.size, 0, none⟩ : Addr).add j) = some u := by
  intro j u hj
  match j, hj with
  | 0, hj => simp at hj; subst hj; simp [Addr.add, go_sem]
  | 1, hj => simp at hj; subst hj; simp [Addr.add, go_sem]
theorem owns_below {w w' : World} {base e size n : Nat} {v : Value} {xs : List Value} (h : w.ownsRow base e size v n xs) (hb : Below w.heap.size w w') : w'.ownsRow base e size v n xs :=
  ⟨h.1, h.2.imp id fun ⟨g, cap, cur, h1, h2, h3, h4⟩ => ⟨g, cap, cur, h1, h2, (hb.block g (lt_of_block h3)).trans h3, h4⟩⟩
theorem owns_set {w : World} {base e size n : Nat} {v : Value} {xs : List Value} (h : w.ownsRow base e size v n xs) {B : Nat} (hB : ∀ k, v.ownBlock = some k → k ≠ B) (j : Nat) (u : Value) : (w.setCell ⟨B, j, none⟩ u).ownsRow base e size v n xs :=
  ⟨h.1, h.2.imp id fun ⟨g, cap, cur, h1, h2, h3, h4⟩ => ⟨g, cap, cur, h1, h2, by rw [heap_setCell_other w ⟨B, j, none⟩ g u (hB g (by rw [h1]; rfl))]; exact h3, h4⟩⟩
theorem owns_lt {w : World} {base e size n : Nat} {v : Value} {xs : List Value} (h : w.ownsRow base e size v n xs) : ∀ k, v.ownBlock = some k → k < w.heap.size := by
  intro k hk
  rcases h.2 with ⟨rfl, _⟩ | ⟨g, cap, cur, rfl, _, h3, _⟩
  · simp [Value.ownBlock] at hk
  · simp [Value.ownBlock] at hk; subst hk; exact lt_of_block h3

/-- The slice of a row that is not empty. -/
theorem owns_some {w : World} {base e size n : Nat} {v : Value} {xs : List Value} (h : w.ownsRow base e size v n xs) (hn : 0 < n) : ∃ g cap, v = .slice (some ⟨g, 0, none⟩) n cap ∧ base ≤ g ∧ g < w.heap.size := by
  rcases h.2 with ⟨_, h0⟩ | ⟨g, cap, cur, rfl, hg, hh, _⟩
  · omega
  · exact ⟨g, cap, rfl, hg, lt_of_block hh⟩
end Go.Proofs.Ytgkebobmfagklaa

namespace Go.Proofs.Ytgkebobmfagklaa
open Go.RowKit

/-- The row when j ticks ahead of the last one are done. -/
def backL (q s fr b : Int) (l : List Stp) (n j : Nat) : List (Int × Int) := (List.range (n + 1)).map fun i => if n - j ≤ i then bwdS q s fr b l n (n - i) else fwdS q s fr b l i

theorem backL_length (q s fr b : Int) (l : List Stp) (n j : Nat) : (backL q s fr b l n j).length = n + 1 := by simp [backL]
theorem backL_get (q s fr b : Int) (l : List Stp) (n j i : Nat) (h : i < n + 1) : (backL q s fr b l n j)[i]? = some (if n - j ≤ i then bwdS q s fr b l n (n - i) else fwdS q s fr b l i) := by simp [backL, h]
theorem backL_zero (q s fr b : Int) (l : List Stp) (n : Nat) : backL q s fr b l n 0 = fwdL q s fr b l (n + 1) := by
  unfold backL fwdL
  apply List.map_congr_left
  intro i hi
  have hi' := List.mem_range.1 hi
  by_cases h : n - 0 ≤ i
  · have e : i = n := by omega
    rw [if_pos h, e, Nat.sub_self]; rfl
  · rw [if_neg h]
theorem backL_all {q s fr b : Int} {l : List Stp} (h : spanB q s fr b l = true) : backL q s fr b l l.length l.length = spansL q s fr b l := by
  unfold backL spansL
  rw [if_pos h]
  apply List.map_congr_left
  intro i _
  rw [if_pos (by omega)]
theorem backL_now (q s fr b : Int) (l : List Stp) (n j : Nat) (h : j < n) : (backL q s fr b l n j)[n - (j + 1)]? = some (fwdS q s fr b l (n - (j + 1))) := by
  rw [backL_get _ _ _ _ _ _ _ _ (by omega), if_neg (by omega)]
theorem backL_next (q s fr b : Int) (l : List Stp) (n j : Nat) (h : j < n) : (backL q s fr b l n j)[n - (j + 1) + 1]? = some (bwdS q s fr b l n j) := by
  rw [backL_get _ _ _ _ _ _ _ _ (by omega), if_pos (by omega)]
  congr 2
  omega
theorem backL_succ (q s fr b : Int) (l : List Stp) (n j : Nat) (h : j < n) : backL q s fr b l n (j + 1) = (backL q s fr b l n j).set (n - (j + 1)) (bwdS q s fr b l n (j + 1)) := by
  apply List.ext_getElem?
  intro i
  by_cases hi : i < n + 1
  · rw [backL_get _ _ _ _ _ _ _ _ hi]
    by_cases e : n - (j + 1) = i
    · rw [← e, List.getElem?_set_self (by rw [backL_length]; omega), if_pos (by omega)]
      congr 2
      omega
    · rw [List.getElem?_set_ne e, backL_get _ _ _ _ _ _ _ _ hi]
      by_cases h2 : n - j ≤ i
      · rw [if_pos h2, if_pos (by omega)]
      · rw [if_neg h2, if_neg (by omega)]
  · rw [List.getElem?_eq_none (by rw [backL_length]; omega), List.getElem?_eq_none (by rw [List.length_set, backL_length]; omega)]

theorem spanCells_set : ∀ (xs : List (Int × Int)) (i : Nat) (x : Int × Int), spanCells (xs.set i x) = ((spanCells xs).set (i * 2) (.int .i64 x.1)).set (i * 2 + 1) (.int .i64 x.2)
  | [], i, x => by simp [spanCells]
  | y :: ys, 0, x => by simp [spanCells]
  | y :: ys, i + 1, x => by
    have ih := spanCells_set ys i x
    have e : ∀ zs : List (Int × Int), spanCells (y :: zs) = .int .i64 y.1 :: .int .i64 y.2 :: spanCells zs := fun zs => by simp [spanCells]
    rw [List.set_cons_succ, e, e, ih, show (i + 1) * 2 = i * 2 + 1 + 1 by omega]
    simp

/-- A store into a row that a call owns. -/
theorem owns_put {w : World} {base e size n g cap : Nat} {xs : List Value} (h : w.ownsRow base e size (.slice (some ⟨g, 0, none⟩) n cap) n xs) {j : Nat} (_hj : j < n * size) (u : Value) :
    (w.setCell ⟨g, j, none⟩ u).ownsRow base e size (.slice (some ⟨g, 0, none⟩) n cap) n (xs.set j u) := by
  refine ⟨by rw [List.length_set]; exact h.1, ?_⟩
  rcases h.2 with ⟨h0, _⟩ | ⟨g', cap', cur, h1, h2, h3, h4, h5, h6, h7⟩
  · cases h0
  · simp only [Value.slice.injEq, Option.some.injEq, Addr.mk.injEq, and_true, true_and] at h1
    obtain ⟨rfl, rfl⟩ := h1
    refine Or.inr ⟨g, cap, _, rfl, h2, heap_setCell_same w g j cur e u h3, h4, h5, by rw [Array.size_setIfInBounds]; exact h6, ?_⟩
    rw [← h7, Array.toList_setIfInBounds, List.take_set]
end Go.Proofs.Ytgkebobmfagklaa

namespace Go.Proofs.Ytgkebobmfagklaa
open Go.RowKit

/-- The box that holds the path. -/
structure BoxP (w wr : World) (q s fr b : Int) (v : Value) : Prop where
  old : Below w.heap.size w wr
  lt : w.heap.size < wr.heap.size
  p0 : wr.cell? ⟨w.heap.size, 0, none⟩ = some (.int .i64 q)
  p1 : wr.cell? ⟨w.heap.size, 1, none⟩ = some (.int .i64 s)
  p2 : wr.cell? ⟨w.heap.size, 2, none⟩ = some v
  p3 : wr.cell? ⟨w.heap.size, 3, none⟩ = some (.int .i64 fr)
  p4 : wr.cell? ⟨w.heap.size, 4, none⟩ = some (.int .i64 b)
theorem BoxP.below {w wr w2 : World} {q s fr b : Int} {v : Value} (h : BoxP w wr q s fr b v) (hb : Below wr.heap.size wr w2) : BoxP w w2 q s fr b v := by
  have c0 : ∀ j, w2.cell? ⟨w.heap.size, j, none⟩ = wr.cell? ⟨w.heap.size, j, none⟩ := fun j => hb.cell (p := ⟨w.heap.size, j, none⟩) h.lt
  exact ⟨h.old.trans (hb.mono (Nat.le_of_lt h.lt)), Nat.lt_of_lt_of_le h.lt hb.size, (c0 _).trans h.p0, (c0 _).trans h.p1, (c0 _).trans h.p2, (c0 _).trans h.p3, (c0 _).trans h.p4⟩
theorem BoxP.keep {w wr w2 : World} {q s fr b : Int} {v : Value} (h : BoxP w wr q s fr b v) (hb : Below (w.heap.size + 1) wr w2) : BoxP w w2 q s fr b v := by
  have c0 : ∀ j, w2.cell? ⟨w.heap.size, j, none⟩ = wr.cell? ⟨w.heap.size, j, none⟩ := fun j => hb.cell (p := ⟨w.heap.size, j, none⟩) (Nat.lt_succ_self _)
  exact ⟨h.old.trans (hb.mono (by omega)), Nat.lt_of_lt_of_le h.lt hb.size, (c0 _).trans h.p0, (c0 _).trans h.p1, (c0 _).trans h.p2, (c0 _).trans h.p3, (c0 _).trans h.p4⟩
theorem BoxP.new (w : World) (q s fr b : Int) (v : Value) (t : TypeId) : BoxP w (w.alloc (.cells #[.int .i64 q, .int .i64 s, v, .int .i64 fr, .int .i64 b] t)) q s fr b v :=
  ⟨(Below.refl _ _).alloc (Nat.le_refl _) _, by simp, by simp [go_sem], by simp [go_sem], by simp [go_sem], by simp [go_sem], by simp [go_sem]⟩
end Go.Proofs.Ytgkebobmfagklaa

namespace Go.Proofs.Ytgkebobmfagklaa
open Go.RowKit

/-- The cells of a list of steps. -/
def stepCells (l : List Stp) : List Value := l.flatMap Stp.cells
theorem stepCells_cons (t : Stp) (l : List Stp) : stepCells (t :: l) = t.cells ++ stepCells l := by simp [stepCells]
theorem stepCells_length (l : List Stp) : (stepCells l).length = l.length * 7 := by
  induction l with
  | nil => rfl
  | cons t l ih => rw [stepCells_cons, List.length_append, ih]; simp; omega
theorem stepCells_at : ∀ (l : List Stp) (i : Nat) (t : Stp) (j : Nat), l[i]? = some t → j < 7 → (stepCells l)[i * 7 + j]? = t.cells[j]?
  | [], i, t, j, h, _ => by simp at h
  | y :: ys, 0, t, j, h, hj => by
    simp at h
    subst h
    rw [stepCells_cons, List.getElem?_append_left (by simp; omega)]
    simp
  | y :: ys, i + 1, t, j, h, hj => by
    rw [stepCells_cons, List.getElem?_append_right (by simp; omega)]
    have ih := stepCells_at ys i t j (by simpa using h) hj
    rw [← ih]
    congr 1
    simp
    omega
theorem stepCells_one (l : List Stp) : ∀ u ∈ stepCells l, u.oneCell' = true := by
  intro u hu
  simp only [stepCells, List.mem_flatMap] at hu
  obtain ⟨t, _, h⟩ := hu
  simp at h
  rcases h with rfl | rfl | rfl | rfl | rfl | rfl | rfl <;> rfl
theorem steps_news {w : World} {b o : Nat} {l : List Stp} {a : Option Addr} (h : StepsAt w a b o l) : ∀ j u, (stepCells l)[j]? = some u → w.cell? ((⟨b, o, none⟩ : Addr).add j) = some u := by
  intro j u hj
  have hlt : j < l.length * 7 := by rw [← stepCells_length]; exact (List.getElem?_eq_some_iff.1 hj).1
  obtain ⟨i, r, hr, rfl⟩ : ∃ i r, r < 7 ∧ j = i * 7 + r := ⟨j / 7, j % 7, Nat.mod_lt _ (by decide), by omega⟩
  obtain ⟨t, ht⟩ : ∃ t, l[i]? = some t := ⟨l[i], List.getElem?_eq_getElem (by omega)⟩
  rw [stepCells_at l i t r ht hr] at hj
  have := h.cell i t ht r u hj
  rw [Addr.add_mid, ← Nat.add_assoc]
  exact this
theorem steps_owned {w : World} {base e n g cap : Nat} {l : List Stp} (h : w.ownsRow base e 7 (.slice (some ⟨g, 0, none⟩) n cap) n (stepCells l)) : StepsAt w (some ⟨g, 0, none⟩) g 0 l where
  here _ := rfl
  lt _ := (h.lt g rfl).2
  cell i t ht j u hu := by
    have hj : j < 7 := (List.getElem?_eq_some_iff.1 hu).1
    have hn : l.length * 7 = n * 7 := by rw [← stepCells_length]; exact h.1
    have hi : i < l.length := (List.getElem?_eq_some_iff.1 ht).1
    have := (h.cellAt (i * 7 + j) (by omega)).trans (stepCells_at l i t j ht hj)
    rw [Nat.zero_add]
    exact this.trans hu

theorem stopAt {p : Prop} (h : Hid p) : p := h.out

theorem stepCells_set : ∀ (l : List Stp) (i : Nat) (t u : Stp), l[i]? = some t → u = { t with fr := u.fr, by_ := u.by_ } → stepCells (l.set i u) = ((stepCells l).set (i * 7 + 4) (.int .i64 u.fr)).set (i * 7 + 5) (.int .i64 u.by_)
  | [], i, t, u, h, _ => by simp at h
  | y :: ys, 0, t, u, h, he => by
    simp at h
    subst h
    rw [List.set_cons_zero, stepCells_cons, stepCells_cons]
    have e1 : u.x = y.x := by rw [he]
    have e2 : u.y = y.y := by rw [he]
    have e3 : u.lo = y.lo := by rw [he]
    have e4 : u.hi = y.hi := by rw [he]
    have e5 : u.ho = y.ho := by rw [he]
    simp [e1, e2, e3, e4, e5]
  | y :: ys, i + 1, t, u, h, he => by
    have ih := stepCells_set ys i t u (by simpa using h) he
    rw [List.set_cons_succ, stepCells_cons, stepCells_cons, ih, show (i + 1) * 7 + 4 = i * 7 + 4 + 7 by omega, show (i + 1) * 7 + 5 = i * 7 + 5 + 7 by omega]
    simp

/-- A path lies in a block of its own. -/
structure PathAt (w : World) (B : Nat) (q s fr b : Int) (v : Value) : Prop where
  it : w.heap[B]? = some (.cells #[.int .i64 q, .int .i64 s, v, .int .i64 fr, .int .i64 b] 34 (0, 0))
theorem PathAt.new (w : World) (q s fr b : Int) (v : Value) : PathAt (w.alloc (.cells #[.int .i64 q, .int .i64 s, v, .int .i64 fr, .int .i64 b] 34)) w.heap.size q s fr b v := ⟨heap_alloc_new w _⟩
theorem PathAt.lt {w : World} {B : Nat} {q s fr b : Int} {v : Value} (h : PathAt w B q s fr b v) : B < w.heap.size := lt_of_block h.it
theorem PathAt.keep {w w' : World} {B N : Nat} {q s fr b : Int} {v : Value} (h : PathAt w B q s fr b v) (hb : Below N w w') (hB : B < N) : PathAt w' B q s fr b v := ⟨(hb.block B hB).trans h.it⟩
theorem PathAt.set {w : World} {B : Nat} {q s fr b : Int} {v : Value} (h : PathAt w B q s fr b v) {p : Addr} (hp : B ≠ p.block) (u : Value) : PathAt (w.setCell p u) B q s fr b v := ⟨(heap_setCell_other w p B u hp).trans h.it⟩
theorem PathAt.cells {w : World} {B : Nat} {q s fr b : Int} {v : Value} (h : PathAt w B q s fr b v) : (w.cell? ⟨B, 0, none⟩ = some (.int .i64 q) ∧ w.cell? ⟨B, 1, none⟩ = some (.int .i64 s) ∧ w.cell? ⟨B, 2, none⟩ = some v ∧ w.cell? ⟨B, 3, none⟩ = some (.int .i64 fr) ∧ w.cell? ⟨B, 4, none⟩ = some (.int .i64 b)) ∧ ∀ j, w.frozen? ⟨B, j, none⟩ = false := by
  have := h.it
  refine ⟨⟨?_, ?_, ?_, ?_, ?_⟩, fun j => ?_⟩ <;> simp [World.cell?, World.frozen?, this]

/-- The cells of a result that is a path, not yet written. -/
structure ResP (w : World) (B : Nat) : Prop where
  lt : B < w.heap.size
  it : w.heap[B]? = some (.cells #[.int .i64 0, .int .i64 0, .slice none 0 0, .int .i64 0, .int .i64 0] 34 (0, 0))
theorem ResP.new (w : World) : ResP (w.alloc (.cells #[.int .i64 0, .int .i64 0, .slice none 0 0, .int .i64 0, .int .i64 0] 34)) w.heap.size := ⟨by simp, heap_alloc_new w _⟩
theorem ResP.keep {w w' : World} {B N : Nat} (h : ResP w B) (hb : Below N w w') (hB : B < N) : ResP w' B := ⟨Nat.lt_of_lt_of_le h.lt hb.size, (hb.block B hB).trans h.it⟩
theorem ResP.set {w : World} {B : Nat} (h : ResP w B) {p : Addr} (hp : B ≠ p.block) (u : Value) : ResP (w.setCell p u) B := ⟨by simpa [World.setCell] using h.lt, (heap_setCell_other w p B u hp).trans h.it⟩
theorem ResP.cells {w : World} {B : Nat} (h : ResP w B) : (w.cell? ⟨B, 0, none⟩ = some (.int .i64 0) ∧ w.cell? ⟨B, 1, none⟩ = some (.int .i64 0) ∧ w.cell? ⟨B, 2, none⟩ = some (.slice none 0 0) ∧ w.cell? ⟨B, 3, none⟩ = some (.int .i64 0) ∧ w.cell? ⟨B, 4, none⟩ = some (.int .i64 0)) ∧ ∀ j, w.frozen? ⟨B, j, none⟩ = false := by
  have := h.it
  refine ⟨⟨?_, ?_, ?_, ?_, ?_⟩, fun j => ?_⟩ <;> simp [World.cell?, World.frozen?, this]

theorem PathAt.grown {w w' : World} {P : Nat} {q s fr b : Int} {v : Value} {row : Option Nat} (h : PathAt w P q s fr b v) (hg : w.grownBy w' row) (hne : row ≠ some P) : PathAt w' P q s fr b v := ⟨(hg.block P h.lt (fun e => hne e.symm)).trans h.it⟩
theorem owns_grown {w w' : World} {base e size n : Nat} {v : Value} {xs : List Value} {row : Option Nat} (h : w.ownsRow base e size v n xs) (hg : w.grownBy w' row) (hr : ∀ k, row = some k → k < base) : w'.ownsRow base e size v n xs :=
  ⟨h.1, h.2.imp id fun ⟨g, cap, cur, h1, h2, h3, h4⟩ => ⟨g, cap, cur, h1, h2, (hg.block g (lt_of_block h3) (fun e => by have := hr g e.symm; omega)).trans h3, h4⟩⟩

theorem stepCells_put : ∀ (l : List Stp) (i j : Nat) (t t' : Stp) (u : Value), l[i]? = some t → j < 7 → t'.cells = t.cells.set j u → (stepCells l).set (i * 7 + j) u = stepCells (l.set i t')
  | [], i, _, _, _, _, h, _, _ => by simp at h
  | y :: ys, 0, j, t, t', u, h, hj, he => by
    simp at h
    subst h
    rw [List.set_cons_zero, stepCells_cons, stepCells_cons, he, Nat.zero_mul, Nat.zero_add, List.set_append_left _ _ (by simp; omega)]
  | y :: ys, i + 1, j, t, t', u, h, hj, he => by
    have ih := stepCells_put ys i j t t' u (by simpa using h) hj he
    rw [List.set_cons_succ, stepCells_cons, stepCells_cons, ← ih, List.set_append_right _ _ (by simp; omega)]
    congr 2
    simp
    omega

/-- A row is not a path's block. -/
theorem row_not_path {w : World} {base n X : Nat} {v : Value} {xs : List Value} {q s fr b : Int} {u : Value} (ho : w.ownsRow base 75 7 v n xs) (hp : PathAt w X q s fr b u) : ∀ k, v.ownBlock = some k → k ≠ X := by
  intro k hk e
  subst e
  rcases ho.2 with ⟨rfl, _⟩ | ⟨g, cap, cur, rfl, _, hh, _⟩
  · simp [Value.ownBlock] at hk
  · simp [Value.ownBlock] at hk
    subst hk
    rw [hp.it] at hh
    have := congrArg (fun o => match o with | some (Obj.cells _ t _) => t | _ => 0) hh
    simp at this
end Go.Proofs.Ytgkebobmfagklaa

namespace Go.Proofs.Ytgkebobmfagklaa
open Go.RowKit

set_option maxRecDepth 20000 in
set_option maxHeartbeats 1000000 in
theorem cloneS_any (b0 o cap : Nat) (l : List Stp) (w : World) (hl0 : 1 ≤ l.length) (hl : l.length ≤ 1048576) (hs : StepsAt w (some ⟨b0, o, none⟩) b0 o l) :
    Calls Try.prog 54 #[.slice (some ⟨b0, o, none⟩) l.length cap] w
      fun e w' => ∃ g gc, e = .returned (.slice (some ⟨g, 0, none⟩) l.length gc) ∧ w'.ownsRow w.heap.size 75 7 (.slice (some ⟨g, 0, none⟩) l.length gc) l.length (stepCells l) ∧ Below w.heap.size w w' := by
  obtain ⟨i0, hi, hz0, hz1, hz2⟩ := info_parts step_info
  have hE := owns_empty (w := w) (base := w.heap.size) (e := 75) (size := 7) (Nat.le_refl _)
  have hnew := steps_news (hs.alloc (.cells #[] 75))
  have hnil := Lib.run_eql_slice_nil (P := Try.prog) w 32 75 (some ⟨b0, o, none⟩) l.length cap 0 0 Try.underlying32
  go_enter Try.func54, Try.ntmps54
  go_wp2_with (at_builtin; refine wpList_append_own _ rfl (.tmp 5) (.tmp 6) 32 rfl w.heap.size 75 i0 (.agg #[.int .i64 0, .int .i64 0, .int .i64 0, .int .i64 0, .int .i64 0, .int .i64 0, .bool false]) 7 56 Try.underlying32 hi hz0 hz1 hz2 rfl (by decide) (.slice (some ⟨w.heap.size, 0, none⟩) 0 0) 0 [] rfl hE ⟨b0, o, none⟩ l.length cap (stepCells l) rfl (stepCells_length l) hnew (stepCells_one l) (by unfold maxLen; omega) (by omega) (by simp) ?_; intro v1 w1 hown1 hgrow1 hnil1)
  go_ret
  simp only [Nat.zero_add, List.nil_append] at hown1
  obtain ⟨g, gc, rfl, _, _⟩ := owns_some hown1 (by omega)
  exact ⟨g, gc, rfl, hown1, ((Below.refl w.heap.size w).alloc (Nat.le_refl _) _).grown hgrow1 (by simp) (fun k e => by simp [Value.ownBlock] at e; omega)⟩

end Go.Proofs.Ytgkebobmfagklaa

namespace Go.Proofs.Ytgkebobmfagklaa
open Go.RowKit

/-- Ticks that keep to the windows and the stays, from a place to another. -/
def Keeps (q s fr b : Int) (l : List Stp) (z : Nat → Int) (i j : Nat) : Prop :=
  (∀ k, i ≤ k → k ≤ j → lowB fr l k ≤ z k ∧ z k ≤ highB b l k) ∧ ∀ k, i ≤ k → k < j → q ≤ z (k + 1) - z k ∧ z (k + 1) - z k ≤ mostB s l k
def inP (t : Int) (x : Int × Int) : Prop := x.1 ≤ t ∧ t ≤ x.2

section
variable {q s fr b : Int} {l : List Stp}

theorem fwd_win (k : Nat) {t : Int} (h : inP t (fwdS q s fr b l k)) : lowB fr l k ≤ t ∧ t ≤ highB b l k := by
  cases k with
  | zero => exact h
  | succ m =>
    simp only [inP, fwdS] at h
    have h1 := mxB_le (lowB fr l (m + 1)) ((fwdS q s fr b l m).1 + q)
    have h2 := mnB_le (highB b l (m + 1)) ((fwdS q s fr b l m).2 + mostB s l m)
    omega

theorem fwd_sound {z : Nat → Int} {n : Nat} (h : Keeps q s fr b l z 0 n) : ∀ k, k ≤ n → inP (z k) (fwdS q s fr b l k)
  | 0, hk => h.1 0 (Nat.le_refl _) hk
  | k + 1, hk => by
    have ih := fwd_sound h k (by omega)
    have h1 := h.1 (k + 1) (by omega) hk
    have h2 := h.2 k (by omega) (by omega)
    have m1 := mxB_le (lowB fr l (k + 1)) ((fwdS q s fr b l k).1 + q)
    have m2 := mnB_le (highB b l (k + 1)) ((fwdS q s fr b l k).2 + mostB s l k)
    simp only [inP, fwdS] at *
    omega

theorem fwd_complete (hm : ∀ k, q ≤ mostB s l k) : ∀ (k : Nat) (t : Int), fwdTo q s fr b l (k + 1) = true → inP t (fwdS q s fr b l k) → ∃ z, Keeps q s fr b l z 0 k ∧ z k = t
  | 0, t, _, ht => ⟨fun _ => t, ⟨fun k _ hk => by obtain rfl : k = 0 := by omega
                                                  exact ht, fun k _ hk => by omega⟩, rfl⟩
  | k + 1, t, hf, ht => by
    have hf' : fwdTo q s fr b l (k + 1) = true := by
      simp only [fwdTo, List.all_eq_true, List.mem_range] at hf ⊢
      exact fun i hi => hf i (by omega)
    have h0 := fwdTo_at hf (show k < k + 1 + 1 by omega)
    have hw := fwd_win (k + 1) ht
    have hq := hm k
    have m1 := mxB_le (lowB fr l (k + 1)) ((fwdS q s fr b l k).1 + q)
    have m2 := mnB_le (highB b l (k + 1)) ((fwdS q s fr b l k).2 + mostB s l k)
    simp only [inP, fwdS] at ht
    obtain ⟨u, hu1, hu2⟩ : ∃ u, inP u (fwdS q s fr b l k) ∧ q ≤ t - u ∧ t - u ≤ mostB s l k := by
      by_cases c : (fwdS q s fr b l k).1 ≤ t - mostB s l k
      · exact ⟨t - mostB s l k, ⟨c, by omega⟩, by omega⟩
      · exact ⟨(fwdS q s fr b l k).1, ⟨Int.le_refl _, h0⟩, by omega⟩
    obtain ⟨z, hz, hzk⟩ := fwd_complete hm k u hf' hu1
    refine ⟨fun i => if i ≤ k then z i else t, ⟨fun i _ hi => ?_, fun i _ hi => ?_⟩, if_neg (by omega)⟩
    · by_cases c : i ≤ k
      · simp only [c, if_true]; exact hz.1 i (by omega) c
      · simp only [c, if_false]
        obtain rfl : i = k + 1 := by omega
        exact hw
    · by_cases c : i + 1 ≤ k
      · have c' : i ≤ k := by omega
        simp only [c, c', if_true]; exact hz.2 i (by omega) (by omega)
      · obtain rfl : i = k := by omega
        simp only [Nat.le_refl, if_true, show ¬ i + 1 ≤ i by omega, if_false]
        rw [hzk]; exact hu2

theorem bwd_sub (n : Nat) (j : Nat) {t : Int} (h : inP t (bwdS q s fr b l n j)) : inP t (fwdS q s fr b l (n - j)) := by
  cases j with
  | zero => exact h
  | succ m =>
    simp only [inP, bwdS] at *
    have h1 := mxB_le (fwdS q s fr b l (n - (m + 1))).1 ((bwdS q s fr b l n m).1 - mostB s l (n - (m + 1)))
    have h2 := mnB_le (fwdS q s fr b l (n - (m + 1))).2 ((bwdS q s fr b l n m).2 - q)
    omega

theorem bwd_sound {z : Nat → Int} {n : Nat} (h : Keeps q s fr b l z 0 n) : ∀ j, j ≤ n → inP (z (n - j)) (bwdS q s fr b l n j)
  | 0, _ => fwd_sound h n (Nat.le_refl _)
  | j + 1, hj => by
    have ih := bwd_sound h j (by omega)
    obtain ⟨k, hk1, hk2⟩ : ∃ k, n - (j + 1) = k ∧ n - j = k + 1 := ⟨n - (j + 1), rfl, by omega⟩
    rw [hk2] at ih
    have h0 := fwd_sound h k (by omega)
    have h2 := h.2 k (by omega) (by omega)
    simp only [inP, bwdS] at *
    rw [hk1]
    have h1 := mxB_le (fwdS q s fr b l k).1 ((bwdS q s fr b l n j).1 - mostB s l k)
    have h3 := mnB_le (fwdS q s fr b l k).2 ((bwdS q s fr b l n j).2 - q)
    omega

theorem bwd_some (hm : ∀ k, q ≤ mostB s l k) {n : Nat} (hf : fwdTo q s fr b l (n + 1) = true) : ∀ j, j ≤ n →
    (bwdS q s fr b l n j).1 ≤ (bwdS q s fr b l n j).2 ∧ (fwdS q s fr b l (n - j)).1 ≤ (bwdS q s fr b l n j).1 ∧ (bwdS q s fr b l n j).2 ≤ (fwdS q s fr b l (n - j)).2
  | 0, _ => by
    have := fwdTo_at hf (show n < n + 1 by omega)
    exact ⟨this, Int.le_refl _, Int.le_refl _⟩
  | j + 1, hj => by
    obtain ⟨h1, h2, h3⟩ := bwd_some hm hf j (by omega)
    obtain ⟨k, hk⟩ : ∃ k, n - (j + 1) = k ∧ n - j = k + 1 := ⟨n - (j + 1), rfl, by omega⟩
    rw [hk.2] at h2 h3
    have h0 := fwdTo_at hf (show k < n + 1 by omega)
    have hm := hm k
    simp only [fwdS] at h2 h3
    have m1 := mxB_le (lowB fr l (k + 1)) ((fwdS q s fr b l k).1 + q)
    have m2 := mnB_le (highB b l (k + 1)) ((fwdS q s fr b l k).2 + mostB s l k)
    simp only [bwdS]
    rw [hk.1]
    have m3 := mxB_le (fwdS q s fr b l k).1 ((bwdS q s fr b l n j).1 - mostB s l k)
    have m4 := mnB_le (fwdS q s fr b l k).2 ((bwdS q s fr b l n j).2 - q)
    refine ⟨?_, ?_, ?_⟩ <;> omega

theorem bwd_complete (hm : ∀ k, q ≤ mostB s l k) {n : Nat} (hf : fwdTo q s fr b l (n + 1) = true) : ∀ (j : Nat) (t : Int), j ≤ n → inP t (bwdS q s fr b l n j) → ∃ z, Keeps q s fr b l z (n - j) n ∧ z (n - j) = t
  | 0, t, _, ht => ⟨fun _ => t, ⟨fun k h1 h2 => by obtain rfl : k = n := by omega
                                                   exact fwd_win k (bwd_sub k 0 ht), fun k h1 h2 => by omega⟩, rfl⟩
  | j + 1, t, hj, ht => by
    obtain ⟨h1, _, _⟩ := bwd_some hm hf j (by omega)
    have hw := fwd_win _ (bwd_sub n (j + 1) ht)
    obtain ⟨k, hk⟩ : ∃ k, n - (j + 1) = k ∧ n - j = k + 1 := ⟨n - (j + 1), rfl, by omega⟩
    have hq := hm k
    simp only [inP, bwdS] at ht
    rw [hk.1] at ht hw
    have m3 := mxB_le (fwdS q s fr b l k).1 ((bwdS q s fr b l n j).1 - mostB s l k)
    have m4 := mnB_le (fwdS q s fr b l k).2 ((bwdS q s fr b l n j).2 - q)
    obtain ⟨u, hu1, hu2⟩ : ∃ u, inP u (bwdS q s fr b l n j) ∧ q ≤ u - t ∧ u - t ≤ mostB s l k := by
      by_cases c : (bwdS q s fr b l n j).1 ≤ t + q
      · exact ⟨t + q, ⟨c, by omega⟩, by omega⟩
      · exact ⟨(bwdS q s fr b l n j).1, ⟨Int.le_refl _, h1⟩, by omega⟩
    obtain ⟨z, hz, hzk⟩ := bwd_complete hm hf j u (by omega) hu1
    rw [hk.2] at hz hzk
    rw [hk.1]
    refine ⟨fun i => if k < i then z i else t, ⟨fun i g1 g2 => ?_, fun i g1 g2 => ?_⟩, by simp⟩
    · by_cases c : k < i
      · simp only [c, if_true]; exact hz.1 i (by omega) g2
      · simp only [c, if_false]
        obtain rfl : i = k := by omega
        exact hw
    · by_cases c : k < i
      · simp only [c, show k < i + 1 by omega, if_true]; exact hz.2 i (by omega) g2
      · obtain rfl : i = k := by omega
        simp only [Nat.lt_irrefl, if_false, show i < i + 1 by omega, if_true]
        rw [hzk]; exact hu2

/-- The span of the k-th tick, of n + 1. -/
def spanAt (q s fr b : Int) (l : List Stp) (n k : Nat) : Int × Int := bwdS q s fr b l n (n - k)

theorem fly_iff (hm : ∀ k, q ≤ mostB s l k) (n : Nat) : fwdTo q s fr b l (n + 1) = true ↔ ∃ z, Keeps q s fr b l z 0 n := by
  constructor
  · intro hf
    obtain ⟨z, hz, _⟩ := fwd_complete hm n _ hf ⟨Int.le_refl _, fwdTo_at hf (by omega)⟩
    exact ⟨z, hz⟩
  · rintro ⟨z, hz⟩
    simp only [fwdTo, List.all_eq_true, List.mem_range, someB, decide_eq_true_eq]
    intro i hi
    have := fwd_sound hz i (by omega)
    exact Int.le_trans this.1 this.2

theorem span_iff (hm : ∀ k, q ≤ mostB s l k) {n : Nat} (hf : fwdTo q s fr b l (n + 1) = true) {k : Nat} (hk : k ≤ n) (t : Int) : inP t (spanAt q s fr b l n k) ↔ ∃ z, Keeps q s fr b l z 0 n ∧ z k = t := by
  constructor
  · intro ht
    have h1 := bwd_sub n (n - k) ht
    have ek : n - (n - k) = k := by omega
    rw [ek] at h1
    have hfk : fwdTo q s fr b l (k + 1) = true := by
      simp only [fwdTo, List.all_eq_true, List.mem_range] at hf ⊢
      exact fun i hi => hf i (by omega)
    obtain ⟨x, hx, hxk⟩ := fwd_complete hm k t hfk h1
    obtain ⟨y, hy, hyk⟩ := bwd_complete hm hf (n - k) t (by omega) ht
    rw [ek] at hy hyk
    refine ⟨fun i => if i ≤ k then x i else y i, ⟨fun i _ g => ?_, fun i _ g => ?_⟩, by simp [hxk]⟩
    · by_cases c : i ≤ k
      · simp only [c, if_true]; exact hx.1 i (by omega) c
      · simp only [c, if_false]; exact hy.1 i (by omega) g
    · by_cases c : i + 1 ≤ k
      · have c' : i ≤ k := by omega
        simp only [c, c', if_true]; exact hx.2 i (by omega) (by omega)
      · by_cases c' : i ≤ k
        · obtain rfl : i = k := by omega
          simp only [c, if_false, Nat.le_refl, if_true]
          rw [hxk, ← hyk]
          exact hy.2 i (by omega) g
        · simp only [c, c', if_false]; exact hy.2 i (by omega) g
  · rintro ⟨z, hz, rfl⟩
    have := bwd_sound hz (n - k) (by omega)
    rwa [show n - (n - k) = k by omega] at this
theorem span_some (hm : ∀ k, q ≤ mostB s l k) {n : Nat} (hf : fwdTo q s fr b l (n + 1) = true) {k : Nat} : (spanAt q s fr b l n k).1 ≤ (spanAt q s fr b l n k).2 := (bwd_some hm hf (n - k) (by omega)).1
theorem span_next (hm : ∀ k, q ≤ mostB s l k) {n : Nat} (hf : fwdTo q s fr b l (n + 1) = true) {k : Nat} (hk : k < n) {t : Int} (ht : inP t (spanAt q s fr b l n k)) : ∃ u, inP u (spanAt q s fr b l n (k + 1)) ∧ q ≤ u - t ∧ u - t ≤ mostB s l k := by
  obtain ⟨z, hz, rfl⟩ := (span_iff hm hf (show k ≤ n by omega) t).1 ht
  exact ⟨z (k + 1), (span_iff hm hf (show k + 1 ≤ n by omega) _).2 ⟨z, hz, rfl⟩, hz.2 k (by omega) hk⟩
theorem span_win (hm : ∀ k, q ≤ mostB s l k) {n : Nat} (hf : fwdTo q s fr b l (n + 1) = true) {k : Nat} (hk : k ≤ n) {t : Int} (ht : inP t (spanAt q s fr b l n k)) : lowB fr l k ≤ t ∧ t ≤ highB b l k := by
  obtain ⟨z, hz, rfl⟩ := (span_iff hm hf hk t).1 ht
  exact hz.1 k (by omega) hk

/-- What is open to the k-th tick, behind a tick x. -/
def openP (q s fr b : Int) (l : List Stp) (n k : Nat) (x : Int) : Int × Int := (mxB (spanAt q s fr b l n (k + 1)).1 (x + q), mnB (spanAt q s fr b l n (k + 1)).2 (x + mostB s l k))
/-- What is open when these have begun. -/
def openA (q s fr b : Int) (l : List Stp) (n : Nat) (c : Nat → Int) : Nat → Int × Int
  | 0 => spanAt q s fr b l n 0
  | k + 1 => openP q s fr b l n k (c k)
theorem openP_in {n k : Nat} {x t : Int} : inP t (openP q s fr b l n k x) ↔ inP t (spanAt q s fr b l n (k + 1)) ∧ q ≤ t - x ∧ t - x ≤ mostB s l k := by
  have h1 := mxB_le (spanAt q s fr b l n (k + 1)).1 (x + q)
  have h2 := mnB_le (spanAt q s fr b l n (k + 1)).2 (x + mostB s l k)
  simp only [inP, openP]
  constructor
  · intro h; exact ⟨by omega, by omega⟩
  · rintro ⟨h3, h4⟩; omega
theorem openA_sub {n : Nat} {c : Nat → Int} (k : Nat) {t : Int} (h : inP t (openA q s fr b l n c k)) : inP t (spanAt q s fr b l n k) := by
  cases k with
  | zero => exact h
  | succ m => exact (openP_in.1 h).1
/-- A beginning can be flown just if each tick of it was open. -/
theorem begun_iff (hm : ∀ k, q ≤ mostB s l k) {n : Nat} (hf : fwdTo q s fr b l (n + 1) = true) (c : Nat → Int) {m : Nat} (hmn : m ≤ n) (t : Int) :
    ((∀ k, k < m → inP (c k) (openA q s fr b l n c k)) ∧ inP t (openA q s fr b l n c m)) ↔ ∃ z, Keeps q s fr b l z 0 n ∧ (∀ k, k < m → z k = c k) ∧ z m = t := by
  constructor
  · rintro ⟨h1, h2⟩
    obtain ⟨y, hy, hyk⟩ := (span_iff hm hf hmn t).1 (openA_sub m h2)
    refine ⟨fun i => if i < m then c i else y i, ⟨fun i _ g => ?_, fun i _ g => ?_⟩, fun k hk => by simp [hk], by simp [hyk]⟩
    · by_cases e : i < m
      · simp only [e, if_true]
        exact span_win hm hf (by omega) (openA_sub i (h1 i e))
      · simp only [e, if_false]; exact hy.1 i (by omega) g
    · by_cases e : i + 1 < m
      · have e' : i < m := by omega
        simp only [e, e', if_true]
        exact (openP_in.1 (h1 (i + 1) e)).2
      · by_cases e' : i < m
        · obtain rfl : m = i + 1 := by omega
          simp only [e, e', if_true, if_false]
          rw [hyk]
          exact (openP_in.1 h2).2
        · simp only [e, e', if_false]; exact hy.2 i (by omega) g
  · rintro ⟨z, hz, hc, rfl⟩
    have at_ : ∀ k, k ≤ m → inP (z k) (openA q s fr b l n c k) := by
      intro k hk
      have hk0 := (span_iff hm hf (show k ≤ n by omega) (z k)).2 ⟨z, hz, rfl⟩
      cases k with
      | zero => exact hk0
      | succ j =>
        refine openP_in.2 ⟨hk0, ?_⟩
        rw [← hc j (by omega)]
        exact hz.2 j (by omega) (by omega)
    exact ⟨fun k hk => by rw [← hc k hk]; exact at_ k (by omega), at_ m (Nat.le_refl _)⟩
theorem open_some (hm : ∀ k, q ≤ mostB s l k) {n : Nat} (hf : fwdTo q s fr b l (n + 1) = true) (c : Nat → Int) {m : Nat} (hmn : m ≤ n) (h : ∀ k, k < m → inP (c k) (openA q s fr b l n c k)) : (openA q s fr b l n c m).1 ≤ (openA q s fr b l n c m).2 := by
  cases m with
  | zero => exact span_some hm hf
  | succ k =>
    obtain ⟨u, hu1, hu2⟩ := span_next hm hf (show k < n by omega) (openA_sub k (h k (by omega)))
    have := openP_in.2 ⟨hu1, hu2⟩
    exact Int.le_trans this.1 this.2
theorem same_span {x y : Int × Int} (hx : x.1 ≤ x.2) (hy : y.1 ≤ y.2) (h : ∀ t, inP t x ↔ inP t y) : x = y := by
  have h1 := (h x.1).1 ⟨Int.le_refl _, hx⟩
  have h2 := (h x.2).1 ⟨hx, Int.le_refl _⟩
  have h3 := (h y.1).2 ⟨Int.le_refl _, hy⟩
  have h4 := (h y.2).2 ⟨hy, Int.le_refl _⟩
  simp only [inP] at *
  apply Prod.ext <;> omega
end

/-- The windows l', fr', b' are the others, with the first m ticks held. -/
structure HeldAs (fr b : Int) (l : List Stp) (fr' b' : Int) (l' : List Stp) (s : Int) (c : Nat → Int) (m : Nat) : Prop where
  len : l'.length = l.length
  most : ∀ k, mostB s l' k = mostB s l k
  low : ∀ k, lowB fr' l' k = if k < m then mxB (lowB fr l k) (c k) else lowB fr l k
  high : ∀ k, highB b' l' k = if k < m then mnB (highB b l k) (c k) else highB b l k

theorem held_keeps {q s fr b fr' b' : Int} {l l' : List Stp} {c : Nat → Int} {m n : Nat} (hh : HeldAs fr b l fr' b' l' s c m) (hmn : m ≤ n + 1) (z : Nat → Int) :
    Keeps q s fr' b' l' z 0 n ↔ Keeps q s fr b l z 0 n ∧ ∀ k, k < m → z k = c k := by
  constructor
  · rintro ⟨h1, h2⟩
    have w : ∀ k, k ≤ n → (lowB fr l k ≤ z k ∧ z k ≤ highB b l k) ∧ (k < m → z k = c k) := by
      intro k hk
      have := h1 k (by omega) hk
      rw [hh.low, hh.high] at this
      by_cases e : k < m
      · rw [if_pos e, if_pos e] at this
        have m1 := mxB_le (lowB fr l k) (c k)
        have m2 := mnB_le (highB b l k) (c k)
        exact ⟨by omega, fun _ => by omega⟩
      · rw [if_neg e, if_neg e] at this
        exact ⟨this, fun h => absurd h e⟩
    refine ⟨⟨fun k _ hk => (w k hk).1, fun k g1 g2 => ?_⟩, fun k hk => (w k (by omega)).2 hk⟩
    have := h2 k g1 g2
    rwa [hh.most] at this
  · rintro ⟨⟨h1, h2⟩, h3⟩
    refine ⟨fun k g1 g2 => ?_, fun k g1 g2 => by rw [hh.most]; exact h2 k g1 g2⟩
    have := h1 k g1 g2
    rw [hh.low, hh.high]
    by_cases e : k < m
    · rw [if_pos e, if_pos e]
      have := h3 k e
      have m1 := mxB_le (lowB fr l k) (c k)
      have m2 := mnB_le (highB b l k) (c k)
      omega
    · rw [if_neg e, if_neg e]; exact this

/-- What the specification finds of the held windows is what is open. -/
theorem held_next {q s fr b fr' b' : Int} {l l' : List Stp} {c : Nat → Int} {m n : Nat} (hh : HeldAs fr b l fr' b' l' s c m) (hm : ∀ k, q ≤ mostB s l k) (hmn : m ≤ n) :
    (fwdTo q s fr' b' l' (n + 1) = true ↔ fwdTo q s fr b l (n + 1) = true ∧ ∀ k, k < m → inP (c k) (openA q s fr b l n c k)) ∧
    (fwdTo q s fr' b' l' (n + 1) = true → spanAt q s fr' b' l' n m = openA q s fr b l n c m) := by
  have hm' : ∀ k, q ≤ mostB s l' k := fun k => by rw [hh.most]; exact hm k
  have e1 : fwdTo q s fr' b' l' (n + 1) = true ↔ fwdTo q s fr b l (n + 1) = true ∧ ∀ k, k < m → inP (c k) (openA q s fr b l n c k) := by
    rw [fly_iff hm']
    constructor
    · rintro ⟨z, hz⟩
      obtain ⟨hz1, hz2⟩ := (held_keeps hh (by omega) z).1 hz
      have hf := (fly_iff hm n).2 ⟨z, hz1⟩
      exact ⟨hf, ((begun_iff hm hf c hmn (z m)).2 ⟨z, hz1, hz2, rfl⟩).1⟩
    · rintro ⟨hf, h⟩
      obtain ⟨z, hz1, hz2, _⟩ := (begun_iff hm hf c hmn _).1 ⟨h, ⟨Int.le_refl _, open_some hm hf c hmn h⟩⟩
      exact ⟨z, (held_keeps hh (by omega) z).2 ⟨hz1, hz2⟩⟩
  refine ⟨e1, fun hf' => ?_⟩
  obtain ⟨hf, h⟩ := e1.1 hf'
  refine same_span (span_some hm' hf') (open_some hm hf c hmn h) fun t => ?_
  rw [span_iff hm' hf' hmn]
  constructor
  · rintro ⟨z, hz, rfl⟩
    obtain ⟨hz1, hz2⟩ := (held_keeps hh (by omega) z).1 hz
    exact ((begun_iff hm hf c hmn (z m)).2 ⟨z, hz1, hz2, rfl⟩).2
  · intro ht
    obtain ⟨z, hz1, hz2, h3⟩ := (begun_iff hm hf c hmn t).1 ⟨h, ht⟩
    exact ⟨z, (held_keeps hh (by omega) z).2 ⟨hz1, hz2⟩, h3⟩
end Go.Proofs.Ytgkebobmfagklaa

namespace Go.Proofs.Ytgkebobmfagklaa
open Go.RowKit

/-- A step that was entered at a tick. -/
def Stp.hold (t : Stp) (z : Int) : Stp := { t with fr := mxB t.fr z, by_ := mnB t.by_ z }
/-- The steps, the first k of them held. -/
def heldL (l : List Stp) (zs : List Int) (k : Nat) : List Stp := (List.range l.length).map fun i => if i < k then (l.getD i .zero).hold (zs.getD i 0) else l.getD i .zero
theorem heldL_length (l : List Stp) (zs : List Int) (k : Nat) : (heldL l zs k).length = l.length := by simp [heldL]
theorem heldL_get (l : List Stp) (zs : List Int) (k i : Nat) (h : i < l.length) : (heldL l zs k)[i]? = some (if i < k then (l.getD i .zero).hold (zs.getD i 0) else l.getD i .zero) := by simp [heldL, h]
theorem getD_some {l : List Stp} {i : Nat} (h : i < l.length) : l[i]? = some (l.getD i .zero) := by
  rw [List.getD_eq_getElem?_getD, List.getElem?_eq_getElem h]; rfl
theorem getD_is {l : List Stp} {i : Nat} {t : Stp} (h : l[i]? = some t) : l.getD i .zero = t := by rw [List.getD_eq_getElem?_getD, h]; rfl
theorem heldL_zero (l : List Stp) (zs : List Int) : heldL l zs 0 = l := by
  apply List.ext_getElem?
  intro i
  by_cases h : i < l.length
  · rw [heldL_get _ _ _ _ h, if_neg (by omega), getD_some h]
  · rw [List.getElem?_eq_none (by rw [heldL_length]; omega), List.getElem?_eq_none (by omega)]
theorem heldL_succ (l : List Stp) (zs : List Int) (k : Nat) : heldL l zs (k + 1) = (heldL l zs k).set k ((l.getD k .zero).hold (zs.getD k 0)) := by
  apply List.ext_getElem?
  intro i
  by_cases h : i < l.length
  · rw [heldL_get _ _ _ _ h]
    by_cases e : k = i
    · subst e
      rw [List.getElem?_set_self (by rw [heldL_length]; exact h), if_pos (by omega)]
    · rw [List.getElem?_set_ne e, heldL_get _ _ _ _ h]
      by_cases c : i < k
      · rw [if_pos c, if_pos (by omega)]
      · rw [if_neg c, if_neg (by omega)]
  · rw [List.getElem?_eq_none (by rw [heldL_length]; omega), List.getElem?_eq_none (by rw [List.length_set, heldL_length]; omega)]
theorem heldL_now (l : List Stp) (zs : List Int) (k : Nat) (h : k < l.length) : (heldL l zs k)[k]? = some (l.getD k .zero) := by rw [heldL_get _ _ _ _ h, if_neg (by omega)]

theorem held_as (fr b s : Int) (l : List Stp) (zs : List Int) (hz : zs.length ≤ l.length) : HeldAs fr b l fr b (heldL l zs zs.length) s (fun i => zs.getD i 0) zs.length where
  len := heldL_length _ _ _
  most k := by
    unfold mostB
    by_cases h : k < l.length
    · rw [getD_is (heldL_get l zs zs.length k h)]
      split <;> rfl
    · rw [List.getD_eq_getElem?_getD, List.getD_eq_getElem?_getD, List.getElem?_eq_none (by rw [heldL_length]; omega), List.getElem?_eq_none (by omega)]
  low k := by
    unfold lowB
    rw [heldL_length]
    by_cases h : k < l.length
    · rw [if_pos h, if_pos h, getD_is (heldL_get l zs zs.length k h)]
      split <;> rfl
    · rw [if_neg h, if_neg h, if_neg (by omega)]
  high k := by
    unfold highB
    rw [heldL_length]
    by_cases h : k < l.length
    · rw [if_pos h, if_pos h, getD_is (heldL_get l zs zs.length k h)]
      split <;> rfl
    · rw [if_neg h, if_neg h, if_neg (by omega)]

theorem held_wide {q s fr b : Int} {l : List Stp} (hp : Wide q s fr b l) (zs : List Int) (hz : zs.length ≤ l.length) : Wide q s fr b (heldL l zs zs.length) where
  kind := hp.kind
  len := by rw [heldL_length]; exact hp.len
  win k := by
    have hh := held_as fr b s l zs hz
    have h0 := hp.win k
    rw [hh.low, hh.high]
    split
    · have m1 := mxB_le (lowB fr l k) (zs.getD k 0)
      have m2 := mnB_le (highB b l k) (zs.getD k 0)
      constructor
      · omega
      · have := m2.1; omega
    · exact h0

/-- Each of the ticks was open. -/
def begunB (q s fr b : Int) (l : List Stp) (zs : List Int) : Nat → Bool
  | 0 => true
  | k + 1 => begunB q s fr b l zs k && inB (zs.getD k 0) (openA q s fr b l l.length (fun i => zs.getD i 0) k).1 (openA q s fr b l l.length (fun i => zs.getD i 0) k).2
theorem begunB_iff (q s fr b : Int) (l : List Stp) (zs : List Int) : ∀ m, begunB q s fr b l zs m = true ↔ ∀ k, k < m → inP (zs.getD k 0) (openA q s fr b l l.length (fun i => zs.getD i 0) k)
  | 0 => ⟨fun _ k hk => by omega, fun _ => rfl⟩
  | m + 1 => by
    rw [begunB, Bool.and_eq_true, begunB_iff q s fr b l zs m, inB_iff]
    constructor
    · rintro ⟨h1, h2⟩ k hk
      by_cases e : k = m
      · subst e; exact h2
      · exact h1 k (by omega)
    · intro h
      exact ⟨fun k hk => h k (by omega), h m (by omega)⟩
/-- It can be gone on with. -/
def goB (q s fr b : Int) (l : List Stp) (zs : List Int) : Bool := pathB q s fr b l && spanB q s fr b l && decide (zs.length ≤ l.length) && begunB q s fr b l zs zs.length
def goS (q s fr b : Int) (l : List Stp) (zs : List Int) : Int × Int := if goB q s fr b l zs then openA q s fr b l l.length (fun i => zs.getD i 0) zs.length else (0, 0)

/-- What the specification finds. -/
theorem held_go {q s fr b : Int} {l : List Stp} {zs : List Int} (hp : pathB q s fr b l = true) (hz : zs.length ≤ l.length) :
    spanB q s fr b (heldL l zs zs.length) = goB q s fr b l zs ∧ (goB q s fr b l zs = true → (spansL q s fr b (heldL l zs zs.length))[zs.length]? = some (goS q s fr b l zs)) := by
  have hw := Wide.of hp
  have hw' := held_wide hw zs hz
  have key := held_next (n := l.length) (held_as fr b s l zs hz) hw.quick hz
  have e1 : spanB q s fr b (heldL l zs zs.length) = goB q s fr b l zs := by
    rw [hw'.span_fwd, heldL_length]
    unfold goB
    rw [hp, hw.span_fwd, Bool.eq_iff_iff, key.1]
    simp only [Bool.true_and, Bool.and_eq_true, decide_eq_true_eq]
    rw [begunB_iff]
    exact ⟨fun ⟨h1, h2⟩ => ⟨⟨h1, hz⟩, h2⟩, fun ⟨⟨h1, _⟩, h2⟩ => ⟨h1, h2⟩⟩
  refine ⟨e1, fun hg => ?_⟩
  have hsp : spanB q s fr b (heldL l zs zs.length) = true := by rw [e1]; exact hg
  have hf : fwdTo q s fr b (heldL l zs zs.length) (l.length + 1) = true := by
    have := hw'.span_fwd
    rw [heldL_length] at this
    rw [← this]; exact hsp
  have k2 := key.2 hf
  unfold goS
  rw [if_pos hg, ← k2]
  unfold spansL spanAt
  rw [if_pos hsp, heldL_length, List.getElem?_map, List.getElem?_range (by omega)]
  rfl

/-- The row of spans when these ticks have come: what was open to each of them, what is open to the next, the spans of the rest. -/
def rowG (q s fr b : Int) (l : List Stp) (c : Nat → Int) (m : Nat) : List (Int × Int) := (List.range (l.length + 1)).map fun j => if j ≤ m then openA q s fr b l l.length c j else spanAt q s fr b l l.length j
theorem rowG_length (q s fr b : Int) (l : List Stp) (c : Nat → Int) (m : Nat) : (rowG q s fr b l c m).length = l.length + 1 := by simp [rowG]
theorem rowG_get (q s fr b : Int) (l : List Stp) (c : Nat → Int) (m j : Nat) (h : j ≤ l.length) : (rowG q s fr b l c m)[j]? = some (if j ≤ m then openA q s fr b l l.length c j else spanAt q s fr b l l.length j) := by
  simp [rowG, show j < l.length + 1 by omega]
theorem rowG_zero {q s fr b : Int} {l : List Stp} (c : Nat → Int) (h : spanB q s fr b l = true) : rowG q s fr b l c 0 = spansL q s fr b l := by
  unfold rowG spansL
  rw [if_pos h]
  apply List.map_congr_left
  intro j _
  by_cases e : j ≤ 0
  · obtain rfl : j = 0 := by omega
    rw [if_pos e]; rfl
  · rw [if_neg e]; rfl
theorem rowG_succ (q s fr b : Int) (l : List Stp) (c : Nat → Int) (m : Nat) : rowG q s fr b l c (m + 1) = (rowG q s fr b l c m).set (m + 1) (openP q s fr b l l.length m (c m)) := by
  apply List.ext_getElem?
  intro j
  by_cases h : j ≤ l.length
  · rw [rowG_get _ _ _ _ _ _ _ _ h]
    by_cases e : m + 1 = j
    · subst e
      rw [List.getElem?_set_self (by rw [rowG_length]; omega), if_pos (Nat.le_refl _)]; rfl
    · rw [List.getElem?_set_ne e, rowG_get _ _ _ _ _ _ _ _ h]
      by_cases e' : j ≤ m
      · rw [if_pos e', if_pos (by omega)]
      · rw [if_neg e', if_neg (by omega)]
  · rw [List.getElem?_eq_none (by rw [rowG_length]; omega), List.getElem?_eq_none (by rw [List.length_set, rowG_length]; omega)]
/-- Only the ticks that have come count. -/
theorem rowG_congr {q s fr b : Int} {l : List Stp} {c c' : Nat → Int} {m : Nat} (h : ∀ i, i < m → c i = c' i) : rowG q s fr b l c m = rowG q s fr b l c' m := by
  unfold rowG
  apply List.map_congr_left
  intro j _
  split
  · cases j with
    | zero => rfl
    | succ i => simp only [openA]; rw [h i (by omega)]
  · rfl
end Go.Proofs.Ytgkebobmfagklaa

namespace Go.Proofs.Ytgkebobmfagklaa
open Go.RowKit

/-- The worlds in which all that lay in w lies as it lay. -/
structure Cls (w : World) where
  it : World
  same : Below w.heap.size w it

theorem Cls.any (w : World) : Nonempty (Cls w) := ⟨⟨w, Below.refl _ _⟩⟩

/-- One walk of the lexical order serves every order, where the operations only read and the callees lay new blocks at most. -/
theorem wp_region_cls {P : Program} {id : Nat} {Q : Exit → Act → World → Prop} {a : Act} {w : World} {l : List Oper} (hm : P.follows .mixedOrders = true) (hB : Region.lexB .any l.toArray = true)
    (h : wpQuiet P l.toArray (fun w' => ∃ u : Cls w, w' = u.it) (fun a' => ∀ w', (∃ u : Cls w, w' = u.it) → Q .normal a' w') l a) : (Code.region id l.toArray true).wp P Q a w :=
  wp_region_quiet (C := fun w' => ∃ u : Cls w, w' = u.it) hm hB ⟨⟨{ w with drawn := w.drawn + 1 }, (Below.refl w.heap.size w).drew⟩, rfl⟩ (by simpa using h)

/-- A callee's contract, met in a world of the class. -/
theorem Calls.cls_of {P : Program} {f : FuncId} {args : Array Value} {w : World} {u : Cls w} {v : Value}
    (h : Calls P f args u.it fun e w' => e = .returned v ∧ Below u.it.heap.size u.it w') : Calls P f args u.it fun e w'' => e = .returned v ∧ ∃ m : Cls w, w'' = m.it :=
  h.mono fun _ w' ⟨he, hb⟩ => ⟨he, ⟨w', u.same.trans (hb.mono u.same.size)⟩, rfl⟩
theorem Calls.cls_of_same {P : Program} {f : FuncId} {args : Array Value} {w : World} {u : Cls w} {v : Value}
    (h : Calls P f args u.it fun e w' => e = .returned v ∧ w' = u.it) : Calls P f args u.it fun e w'' => e = .returned v ∧ ∃ m : Cls w, w'' = m.it :=
  h.mono fun _ _ ⟨he, hb⟩ => ⟨he, u, hb⟩

/-- A block that lay there reads as it did. -/
theorem Cls.cell {w : World} {b : Nat} (hb : b < w.heap.size) (u : Cls w) (o : Nat) : u.it.cell? ⟨b, o, none⟩ = w.cell? ⟨b, o, none⟩ := u.same.cell (p := ⟨b, o, none⟩) hb
end Go.Proofs.Ytgkebobmfagklaa

namespace Go.Proofs.Ytgkebobmfagklaa
open Go.RowKit

theorem mx_hi {a c : Int} (h : a < c) : mxB a c = c := by unfold mxB; rw [if_neg (by omega)]
theorem mx_lo {a c : Int} (h : c ≤ a) : mxB a c = a := by unfold mxB; split <;> omega
theorem mn_hi {b d : Int} (h : d < b) : mnB b d = d := by unfold mnB; rw [if_neg (by omega)]
theorem mn_lo {b d : Int} (h : b ≤ d) : mnB b d = b := by unfold mnB; split <;> omega
theorem three_bel {w : World} (c1 c2 c3 : Obj) : Below w.heap.size w (((w.alloc c1).alloc c2).alloc c3) := (((Below.refl w.heap.size w).alloc (Nat.le_refl _) _).alloc (by simp) _).alloc (by simp; omega) _

theorem meet_any (a b c d : Int) (w : World) :
    Calls Try.prog 79 #[.agg #[.int .i64 a, .int .i64 b], .agg #[.int .i64 c, .int .i64 d]] w fun e w' => e = .returned (.agg #[.int .i64 (mxB a c), .int .i64 (mnB b d)]) ∧ Below w.heap.size w w' := by
  go_enter Try.func79, Try.ntmps79
  go_wp2
  all_goals rename_i h1
  · rw [mx_hi h1, mn_hi h]
    exact bodyPost_ret (v := .agg #[.int .i64 c, .int .i64 d]) (by simp [results, Try.results79, go_sem]) rfl ⟨rfl, three_bel _ _ _⟩
  · rw [mx_hi h1, mn_lo h]
    exact bodyPost_ret (v := .agg #[.int .i64 c, .int .i64 b]) (by simp [results, Try.results79, go_sem]) rfl ⟨rfl, three_bel _ _ _⟩
  · rw [mx_lo h1, mn_hi h]
    exact bodyPost_ret (v := .agg #[.int .i64 a, .int .i64 d]) (by simp [results, Try.results79, go_sem]) rfl ⟨rfl, three_bel _ _ _⟩
  · rw [mx_lo h1, mn_lo h]
    exact bodyPost_ret (v := .agg #[.int .i64 a, .int .i64 b]) (by simp [results, Try.results79, go_sem]) rfl ⟨rfl, three_bel _ _ _⟩

set_option maxHeartbeats 2000000 in
set_option maxRecDepth 20000 in
theorem tightL_any (a b c d e f : Int) (w : World) (ha : -100000 ≤ a ∧ a ≤ 100000) (hb : -100000 ≤ b ∧ b ≤ 100000) (he : -100000 ≤ e ∧ e ≤ 100000) (hf : -100000 ≤ f ∧ f ≤ 100000) :
    Calls Try.prog 67 #[.agg #[.int .i64 a, .int .i64 b], .agg #[.int .i64 c, .int .i64 d], .agg #[.int .i64 e, .int .i64 f]] w
      fun x w' => x = .returned (.tuple #[.agg #[.int .i64 a, .int .i64 b], .agg #[.int .i64 (mxB c (a + e)), .int .i64 (mnB d (b + f))]]) ∧ Below w.heap.size w w' := by
  obtain ⟨a0, a1⟩ := ha
  obtain ⟨b0, b1⟩ := hb
  obtain ⟨e0, e1⟩ := he
  obtain ⟨f0, f1⟩ := hf
  have w0 : IntKind.i64.wrap (a + e) = a + e := by rw [IntKind.wrap_i64]; omega
  have w2 : IntKind.i64.wrap (b + f) = b + f := by rw [IntKind.wrap_i64]; omega
  go_enter Try.func67, Try.ntmps67
  go_wp2
  go_region_held3 (fun w' => w'.cell? ⟨w.heap.size, 0, none⟩ = some (.int .i64 a) ∧ w'.cell? ⟨w.heap.size, 1, none⟩ = some (.int .i64 b) ∧ w'.cell? ⟨w.heap.size + 1, 0, none⟩ = some (.int .i64 c) ∧ w'.cell? ⟨w.heap.size + 1, 1, none⟩ = some (.int .i64 d) ∧ w'.cell? ⟨w.heap.size + 1 + 1, 0, none⟩ = some (.int .i64 e) ∧ w'.cell? ⟨w.heap.size + 1 + 1, 1, none⟩ = some (.int .i64 f))
    (simp [go_sem, *])
    (first | (go_at_call 79; refine (meet_any _ _ _ _ _).mono ?_; rintro x w1 ⟨rfl, hb1⟩; obtain ⟨hc1, hf1⟩ := old_cells hb1; have r0 : w1.cell? ⟨w.heap.size + 1 + 1 + 1, 0, none⟩ = some (.int .i64 0) := (by rw [hc1 _ _ (by simp)]; simp [go_sem]); have r1 : w1.cell? ⟨w.heap.size + 1 + 1 + 1, 1, none⟩ = some (.int .i64 0) := (by rw [hc1 _ _ (by simp)]; simp [go_sem]); have r2 : w1.cell? ⟨w.heap.size + 1 + 1 + 1 + 1, 0, none⟩ = some (.int .i64 0) := (by rw [hc1 _ _ (by simp)]; simp [go_sem]); have r3 : w1.cell? ⟨w.heap.size + 1 + 1 + 1 + 1, 1, none⟩ = some (.int .i64 0) := (by rw [hc1 _ _ (by simp)]; simp [go_sem]); have r4 : ∀ j, w1.frozen? ⟨w.heap.size + 1 + 1 + 1, j, none⟩ = false := (by intro j; rw [hf1 _ _ (by simp)]; simp [go_sem]); have r5 : ∀ j, w1.frozen? ⟨w.heap.size + 1 + 1 + 1 + 1, j, none⟩ = false := (by intro j; rw [hf1 _ _ (by simp)]; simp [go_sem])))
  have hb01 : Below w.heap.size w w1 := (((three_bel _ _ _).alloc (by simp; omega) _).alloc (by simp; omega) _).drew.trans (hb1.mono (by simp [World.drew]; omega))
  clear hb1 hc1 hf1
  go_wp2
  refine bodyPost_ret (v := .tuple #[.agg #[.int .i64 a, .int .i64 b], .agg #[.int .i64 (mxB c (a + e)), .int .i64 (mnB d (b + f))]]) (by simp [results, Try.results67, go_sem, *]) rfl ⟨rfl, ?_⟩
  iterate 4 (refine Below.setCell ?_ (by simp; omega) _)
  exact hb01
set_option maxHeartbeats 2000000 in
set_option maxRecDepth 20000 in
theorem tightE_any (a b c d e f : Int) (w : World) (hc : -100000 ≤ c ∧ c ≤ 100000) (hd : -100000 ≤ d ∧ d ≤ 100000) (he : -100000 ≤ e ∧ e ≤ 100000) (hf : -100000 ≤ f ∧ f ≤ 100000) :
    Calls Try.prog 69 #[.agg #[.int .i64 a, .int .i64 b], .agg #[.int .i64 c, .int .i64 d], .agg #[.int .i64 e, .int .i64 f]] w
      fun x w' => x = .returned (.tuple #[.agg #[.int .i64 (mxB a (c - f)), .int .i64 (mnB b (d - e))], .agg #[.int .i64 c, .int .i64 d]]) ∧ Below w.heap.size w w' := by
  obtain ⟨c0, c1⟩ := hc
  obtain ⟨d0, d1⟩ := hd
  obtain ⟨e0, e1⟩ := he
  obtain ⟨f0, f1⟩ := hf
  have w0 : IntKind.i64.wrap (c - f) = c - f := by rw [IntKind.wrap_i64]; omega
  have w2 : IntKind.i64.wrap (d - e) = d - e := by rw [IntKind.wrap_i64]; omega
  go_enter Try.func69, Try.ntmps69
  go_wp2
  go_region_held3 (fun w' => w'.cell? ⟨w.heap.size, 0, none⟩ = some (.int .i64 a) ∧ w'.cell? ⟨w.heap.size, 1, none⟩ = some (.int .i64 b) ∧ w'.cell? ⟨w.heap.size + 1, 0, none⟩ = some (.int .i64 c) ∧ w'.cell? ⟨w.heap.size + 1, 1, none⟩ = some (.int .i64 d) ∧ w'.cell? ⟨w.heap.size + 1 + 1, 0, none⟩ = some (.int .i64 e) ∧ w'.cell? ⟨w.heap.size + 1 + 1, 1, none⟩ = some (.int .i64 f))
    (simp [go_sem, *])
    (first | (go_at_call 79; refine (meet_any _ _ _ _ _).mono ?_; rintro x w1 ⟨rfl, hb1⟩; obtain ⟨hc1, hf1⟩ := old_cells hb1; have r0 : w1.cell? ⟨w.heap.size + 1 + 1 + 1, 0, none⟩ = some (.int .i64 0) := (by rw [hc1 _ _ (by simp)]; simp [go_sem]); have r1 : w1.cell? ⟨w.heap.size + 1 + 1 + 1, 1, none⟩ = some (.int .i64 0) := (by rw [hc1 _ _ (by simp)]; simp [go_sem]); have r2 : w1.cell? ⟨w.heap.size + 1 + 1 + 1 + 1, 0, none⟩ = some (.int .i64 0) := (by rw [hc1 _ _ (by simp)]; simp [go_sem]); have r3 : w1.cell? ⟨w.heap.size + 1 + 1 + 1 + 1, 1, none⟩ = some (.int .i64 0) := (by rw [hc1 _ _ (by simp)]; simp [go_sem]); have r4 : ∀ j, w1.frozen? ⟨w.heap.size + 1 + 1 + 1, j, none⟩ = false := (by intro j; rw [hf1 _ _ (by simp)]; simp [go_sem]); have r5 : ∀ j, w1.frozen? ⟨w.heap.size + 1 + 1 + 1 + 1, j, none⟩ = false := (by intro j; rw [hf1 _ _ (by simp)]; simp [go_sem])))
  have hb01 : Below w.heap.size w w1 := (((three_bel _ _ _).alloc (by simp; omega) _).alloc (by simp; omega) _).drew.trans (hb1.mono (by simp [World.drew]; omega))
  clear hb1 hc1 hf1
  go_wp2
  refine bodyPost_ret (v := .tuple #[.agg #[.int .i64 (mxB a (c - f)), .int .i64 (mnB b (d - e))], .agg #[.int .i64 c, .int .i64 d]]) (by simp [results, Try.results69, go_sem, *]) rfl ⟨rfl, ?_⟩
  iterate 4 (refine Below.setCell ?_ (by simp; omega) _)
  exact hb01
theorem spanNo_any (a b : Int) (w : World) :
    Calls Try.prog 77 #[.agg #[.int .i64 a, .int .i64 b]] w fun e w' => e = .returned (.bool (decide (b < a))) ∧ Below w.heap.size w w' := by
  go_enter Try.func77, Try.ntmps77
  go_wp2
  go_ret
  exact ⟨rfl, (Below.refl _ _).alloc (Nat.le_refl _) _⟩
theorem spanNo_val (a b : Int) (v : Bool) (w : World) (hv : decide (b < a) = v) :
    Calls Try.prog 77 #[.agg #[.int .i64 a, .int .i64 b]] w fun e w' => e = .returned (.bool v) ∧ Below w.heap.size w w' := by
  rw [← hv]; exact spanNo_any a b w
end Go.Proofs.Ytgkebobmfagklaa

namespace Go.Proofs.Ytgkebobmfagklaa
open Go.RowKit

/-- The numbers zs lie in block b from offset o on. -/
structure IntsAt (w : World) (a : Option Addr) (b o : Nat) (zs : List Int) : Prop where
  here : zs ≠ [] → a = some ⟨b, o, none⟩
  lt : zs ≠ [] → b < w.heap.size
  cell : ∀ (i : Nat) (z : Int), zs[i]? = some z → w.cell? ⟨b, o + i, none⟩ = some (.int .i64 z)

theorem IntsAt.below {w w' : World} {a : Option Addr} {b o B : Nat} {zs : List Int} (h : IntsAt w a b o zs) (hb : Below B w w') (hB : zs ≠ [] → b < B) : IntsAt w' a b o zs where
  here := h.here
  lt hl := Nat.lt_of_lt_of_le (h.lt hl) hb.size
  cell i z hi := by
    have hne : zs ≠ [] := by intro e; subst e; simp at hi
    rw [hb.cell (p := ⟨b, o + i, none⟩) (hB hne)]
    exact h.cell i z hi
theorem IntsAt.alloc {w : World} {a : Option Addr} {b o : Nat} {zs : List Int} (h : IntsAt w a b o zs) (ob : Obj) : IntsAt (w.alloc ob) a b o zs :=
  h.below ((Below.refl w.heap.size w).alloc (Nat.le_refl _) ob) h.lt

theorem int_info : (Try.prog.info? 3).map (fun i => (i.zero, i.size, i.bytes)) = some (some (.int .i64 0), 1, 8) := by kernel_rfl
end Go.Proofs.Ytgkebobmfagklaa

namespace Go.Proofs.Ytgkebobmfagklaa
open Go.RowKit

theorem in_any (n a b : Int) (w : World) :
    Calls Try.prog 34 #[.int .i64 n, .int .i64 a, .int .i64 b] w fun e w' => e = .returned (.bool (inB n a b)) ∧ w' = w := by
  by_cases h1 : a ≤ n
  · by_cases h2 : n ≤ b
    · go_enter Try.func34, Try.ntmps34
      go_wp2
      go_ret
      exact ⟨by simp [inB, h1, h2], rfl⟩
    · have h2' : decide (n ≤ b) = false := by simpa using h2
      go_enter Try.func34, Try.ntmps34
      go_wp2
      go_ret
      exact ⟨by simp [inB, h2'], rfl⟩
  · have h1' : decide (a ≤ n) = false := by simpa using h1
    go_enter Try.func34, Try.ntmps34
    go_wp2
    go_ret
    exact ⟨by simp [inB, h1'], rfl⟩

theorem stepOkS_any (x y lo hi fr b : Int) (ho : Bool) (w : World) :
    Calls Try.prog 50 #[.agg #[.int .i64 x, .int .i64 y, .int .i64 lo, .int .i64 hi, .int .i64 fr, .int .i64 b, .bool ho]] w fun e w' => e = .returned (.bool (stepB x y lo hi fr b)) ∧ Below w.heap.size w w' := by
  have hb := (Below.refl w.heap.size w).alloc (Nat.le_refl _) (.cells #[.int .i64 x, .int .i64 y, .int .i64 lo, .int .i64 hi, .int .i64 fr, .int .i64 b, .bool ho] 75)
  have er : stepB x y lo hi fr b = (inB x 0 15 && inB y 0 15 && inB lo 0 hi && decide (hi ≤ 6) && inB fr 0 b && decide (b ≤ 10000)) := by
    rw [Bool.eq_iff_iff]; simp [stepB, inB]; omega
  have ER : Hid (stepB x y lo hi fr b = (inB x 0 15 && inB y 0 15 && inB lo 0 hi && decide (hi ≤ 6) && inB fr 0 b && decide (b ≤ 10000))) := er
  clear er
  rcases Bool.eq_false_or_eq_true (inB x 0 15) with h1 | h1
  rcases Bool.eq_false_or_eq_true (inB y 0 15) with h2 | h2
  rcases Bool.eq_false_or_eq_true (inB lo 0 hi) with h3 | h3
  rcases Bool.eq_false_or_eq_true (decide (hi ≤ 6)) with h4 | h4
  rcases Bool.eq_false_or_eq_true (inB fr 0 b) with h5 | h5
  all_goals
    go_enter Try.func50, Try.ntmps50
    go_wp2_with (go_at_call 34; refine (in_any _ _ _ _).mono ?_; rintro e w' ⟨rfl, rfl⟩)
    go_ret
    exact ⟨by rw [ER.out]; simp [*], hb⟩

theorem folN (x y lo hi x' y' lo' hi' : Int) : folB x y lo hi x' y' lo' hi' = (((x != x') || (y != y')) && inB (wrap64 (x - x')) (-1) 1 && inB (wrap64 (y - y')) (-1) 1 && levB lo hi lo' hi') := by
  unfold folB bne; cases (x == x') <;> cases (y == y') <;> rfl

set_option maxHeartbeats 1000000 in
theorem nextS_any (x y lo hi fr b x' y' lo' hi' fr' b' : Int) (ho ho' : Bool) (w : World) :
    Calls Try.prog 51 #[.agg #[.int .i64 x, .int .i64 y, .int .i64 lo, .int .i64 hi, .int .i64 fr, .int .i64 b, .bool ho], .agg #[.int .i64 x', .int .i64 y', .int .i64 lo', .int .i64 hi', .int .i64 fr', .int .i64 b', .bool ho']] w
      fun e w' => e = .returned (.bool (folB x y lo hi x' y' lo' hi')) ∧ Below w.heap.size w w' := by
  have hb : ∀ c1 c2 : Array Value, Below w.heap.size w ((w.alloc (.cells c1 75)).alloc (.cells c2 75)) := fun c1 c2 => ((Below.refl w.heap.size w).alloc (Nat.le_refl _) _).alloc (by simp) _
  rcases Bool.eq_false_or_eq_true (inB (wrap64 (x - x')) (-1) 1) with h3 | h3
  rcases Bool.eq_false_or_eq_true (inB (wrap64 (y - y')) (-1) 1) with h4 | h4
  rcases (show ((x != x') = false ∧ (y != y') = false) ∨ ((x != x') = false ∧ (y != y') = true) ∨ (x != x') = true by cases (x != x') <;> cases (y != y') <;> simp) with ⟨h1, h2⟩ | ⟨h1, h2⟩ | h1
  rotate_left
  rcases Bool.eq_false_or_eq_true (decide (lo ≤ hi')) with h5 | h5
  rotate_left 2
  rcases Bool.eq_false_or_eq_true (decide (lo ≤ hi')) with h5 | h5
  all_goals
    go_enter Try.func51, Try.ntmps51
    go_wp2_with (go_at_call 34; refine (in_any _ _ _ _).mono ?_; rintro e w' ⟨rfl, rfl⟩)
    go_ret
    exact ⟨by rw [folN]; simp [levB, *], hb _ _⟩

theorem in_val (n a b : Int) (v : Bool) (w : World) (hv : inB n a b = v) :
    Calls Try.prog 34 #[.int .i64 n, .int .i64 a, .int .i64 b] w fun e w' => e = .returned (.bool v) ∧ w' = w := by
  rw [← hv]; exact in_any n a b w
end Go.Proofs.Ytgkebobmfagklaa
