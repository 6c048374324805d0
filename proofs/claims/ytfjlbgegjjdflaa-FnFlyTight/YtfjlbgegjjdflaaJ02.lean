/- Joined texts: Last, SpanMath, SpanBack, SpanSpec, Draw1, FlightMath, NextData, StepInfo. -/
import Derived.Deep.Quiet
import Derived.Deep.RegionHeld3
import Derived.Deep.DeepCutAuto
import Derived.WalkKit
import Derived.WalkSpells
import Derived.Test.YtfjlbgegjjdflaaRows
import Derived.Test.YtfjlbgegjjdflaaJ01
namespace Go.Proofs.Ytfjlbgegjjdflaa
open Go.RowKit

section
variable {P : Program} {ops : Array Oper} {md : Region.Mode} {C : World → Prop} {last : Nat} {Q : Exit → Act → World → Prop}

/-- Whatever order is picked from here on: all operations but the last one are quiet; the last one comes up when nothing else is left. -/
def anyL (P : Program) (md : Region.Mode) (ops : Array Oper) (C : World → Prop) (last : Nat) (Q : Exit → Act → World → Prop) : Nat → Array Bool → Act → Prop
  | 0, _, _ => False
  | fuel + 1, listed, a => Region.ready md ops listed ≠ [] ∧ ∀ i ∈ Region.ready md ops listed,
      (i = last → Region.ready md ops (listed.setIfInBounds last true) = [] ∧ ∀ w, C w → wpOp P ops Q last (fun a' w' => Q .normal a' w') a w) ∧
      (i ≠ last → qOp P ops C i (anyL P md ops C last Q fuel (listed.setIfInBounds i true)) a)

theorem any_done {listed : Array Bool} (h : Region.ready md ops listed = []) {a : Act} {w : World} (hq : Q .normal a w) : ∀ fuel, wpAny P md ops Q fuel listed a w
  | 0 => ⟨h, hq⟩
  | _ + 1 => ⟨fun _ => hq, fun i hi => by rw [h] at hi; cases hi⟩

theorem any_of_L : ∀ (fuel : Nat) (listed : Array Bool) (a : Act) (w : World), C w → anyL P md ops C last Q fuel listed a → wpAny P md ops Q fuel listed a w
  | 0, _, _, _, _, h => h.elim
  | fuel + 1, listed, a, w, hw, h => ⟨fun e => absurd e h.1, fun i hi => by
      by_cases e : i = last
      · subst e
        obtain ⟨h1, h2⟩ := (h.2 i hi).1 rfl
        exact wpOp_mono (fun a' w' hq => any_done h1 hq fuel) (h2 w hw)
      · exact wpOp_of_qOp hw (fun a' w' hw' hk => any_of_L fuel _ a' w' hw' hk) ((h.2 i hi).2 e)⟩

/-- An operation that is quiet, may come up now, and is apart from what does not wait for it, may be taken first. -/
theorem anyL_take {i x : Nat} {oi : Oper} {v : Value} (hi : ops[i]? = some oi) (hsel : ∀ (j : Nat) (o : Oper) cs b, ops[j]? = some o → o.op ≠ .select cs b)
    (hx : x = i ∨ ∃ ox, ops[x]? = some ox ∧ ∃ e ∈ ox.after, Region.binds md e = true ∧ e.on = i)
    (hwait : ∀ oL, ops[last]? = some oL → ∃ e ∈ oL.after, Region.binds md e = true ∧ e.on = x) :
    ∀ (fuel : Nat) (listed : Array Bool) (a : Act), listed.getD x true = false →
      (∀ j oj, ops[j]? = some oj → j ≠ i → listed.getD j true = false → (∀ e ∈ oj.after, Region.binds md e = true → e.on ≠ i) → oi.apart ops oj = true) →
      i ∈ Region.ready md ops listed → YieldsIn P ops C oi v a →
      anyL P md ops C last Q fuel (listed.setIfInBounds i true) (a.put oi.dst v) → anyL P md ops C last Q (fuel + 1) listed a := by
  intro fuel
  induction fuel with
  | zero => intro _ _ _ _ _ _ H; exact H.elim
  | succ fuel ih =>
    intro listed a hxu hfree hr hy H
    have hun : listed.getD i true = false := (mem_ready.1 hr).1
    have clash : listed.getD i false = true → False := fun h1 => by
      rcases Nat.lt_or_ge i listed.size with h' | h'
      · simp [h'] at hun h1; rw [hun] at h1; cases h1
      · simp [Array.getElem?_eq_none h'] at h1
    have clashx : listed.getD x false = true → False := fun h1 => by
      rcases Nat.lt_or_ge x listed.size with h' | h'
      · simp [h'] at hxu h1; rw [hxu] at h1; cases h1
      · simp [Array.getElem?_eq_none h'] at h1
    refine ⟨fun e => (by rw [e] at hr; cases hr), fun j hj => ?_⟩
    obtain ⟨hjun, oj, hoj, hall⟩ := mem_ready.1 hj
    have hjl : j ≠ last := fun e => by
      subst e
      obtain ⟨y, hy', hb, ho⟩ := hwait oj hoj
      exact clashx (by have := hall y hy' hb; rwa [ho] at this)
    refine ⟨fun e => absurd e hjl, fun _ => ?_⟩
    by_cases hji : j = i
    · subst hji
      exact hy.qOp hi H
    · have hnot : ∀ e ∈ oj.after, Region.binds md e = true → e.on ≠ i := fun e he hb heq => clash (by have := hall e he hb; rwa [heq] at this)
      have h1 := (H.2 j (ready_mono hj hji)).2 hjl
      have h2 := qOp_put hoj (hfree j oj hoj hji hjun hnot) (fun cs b => hsel i oi cs b hi) (fun cs b => hsel j oj cs b hoj) hy h1
      have hjx : j ≠ x := fun e => by
        rcases hx with rfl | ⟨ox, hox, y, hy', hb, ho⟩
        · exact hji e
        · subst e
          rw [hoj] at hox
          cases hox
          exact hnot y hy' hb ho
      refine qOp_mono (fun a' h3 => ih (listed.setIfInBounds j true) a' (by rw [getD_set_ne true hjx]; exact hxu) (fun k ok hk hki hku hkn => hfree k ok hk hki ?_ hkn) (ready_mono hr (Ne.symm hji)) h3.1 ?_) h2
      · by_cases hjk : j = k
        · subst hjk; exact hjun
        · rw [getD_set_ne true hjk] at hku; exact hku
      · rw [Array.setIfInBounds_comm _ _ hji]
        exact h3.2

/-- While the k-th operation is not done, the last one cannot come up: it waits for it, or for one that is not done and waits for it. -/
def waitsAt (md : Region.Mode) (ops : Array Oper) (last k : Nat) (listed : Array Bool) : Option Nat :=
  (List.range last).find? fun x => !(listed.getD x true) && (x == k || (match ops[x]? with | none => false | some ox => ox.after.toList.any fun e => Region.binds md e && e.on == k)) &&
    (match ops[last]? with | none => true | some oL => oL.after.toList.any fun e => Region.binds md e && e.on == x)
/-- The Bool over a region: its lexical order may be walked, and the last operation comes up when nothing else is left. -/
def lexL (md : Region.Mode) (ops : Array Oper) (last : Nat) : Nat → Nat → Array Bool → Bool
  | 0, k, listed => Region.ready md ops listed == [k] && (Region.ready md ops (listed.setIfInBounds k true)).isEmpty
  | fuel + 1, k, listed => (Region.ready md ops listed).contains k && Region.free md ops listed k && (waitsAt md ops last k listed).isSome && lexL md ops last fuel (k + 1) (listed.setIfInBounds k true)

theorem anyL_lex (hs : Region.noSelect ops = true) : ∀ (l : List Oper) (k : Nat) (listed : Array Bool) (a : Act), (∀ j, j < l.length → l[j]? = ops[k + j]?) → last = k + l.length →
    lexL md ops last l.length k listed = true → wpQuiet P ops C (fun a' => ∀ w, C w → wpOp P ops Q last (fun a'' w'' => Q .normal a'' w'') a' w) l a → anyL P md ops C last Q (l.length + 1) listed a
  | [], k, listed, a, _, hk, hB, h => by
    simp only [List.length_nil, Nat.add_zero] at hk
    subst hk
    simp only [List.length_nil, lexL, Bool.and_eq_true, beq_iff_eq, List.isEmpty_iff] at hB
    refine ⟨by rw [hB.1]; simp, fun i hi => ⟨fun e => ⟨hB.2, h⟩, fun e => ?_⟩⟩
    rw [hB.1] at hi
    simp at hi
    exact absurd hi e
  | o :: l, k, listed, a, hl, hk, hB, h => by
    have h0 : ops[k]? = some o := by simpa using (hl 0 (by simp)).symm
    simp only [List.length_cons, lexL, Bool.and_eq_true] at hB
    obtain ⟨⟨⟨hr, hf⟩, hwt⟩, hB'⟩ := hB
    obtain ⟨x, hxw⟩ := Option.isSome_iff_exists.1 hwt
    have hxp := List.find?_some hxw
    simp only [Bool.and_eq_true, Bool.not_eq_true'] at hxp
    obtain ⟨⟨hx1, hx2⟩, hx3⟩ := hxp
    have hst : qOp P ops C k (wpQuiet P ops C (fun a' => ∀ w, C w → wpOp P ops Q last (fun a'' w'' => Q .normal a'' w'') a' w) l) a := by unfold qOp; simp only [h0]; exact h
    obtain ⟨v, hy, hK⟩ := yieldsIn_of_qOp h0 hst
    have hkl : k < last := by rw [hk]; simp
    refine anyL_take (x := x) h0 (Region.noSelect_spec hs) ?_ (fun oL hoL => ?_) (l.length + 1) listed a hx1 (Region.free_spec h0 hf) (by simpa using hr) hy
      (anyL_lex hs l (k + 1) _ _ (fun j hj => by have := hl (j + 1) (by simp; omega); simpa [Nat.add_assoc, Nat.add_comm 1 j] using this) (by rw [hk]; simp; omega) hB' hK)
    · simp only [Bool.or_eq_true, beq_iff_eq] at hx2
      rcases hx2 with h1 | h1
      · exact Or.inl h1
      · right
        cases hox : ops[x]? with
        | none => rw [hox] at h1; cases h1
        | some ox =>
          rw [hox] at h1
          simp only [List.any_eq_true, Bool.and_eq_true, beq_iff_eq] at h1
          obtain ⟨e, he, h2, h3⟩ := h1
          exact ⟨ox, rfl, e, by simpa using he, h2, h3⟩
    · rw [hoL] at hx3
      simp only [List.any_eq_true, Bool.and_eq_true, beq_iff_eq] at hx3
      obtain ⟨e, he, h2, h3⟩ := hx3
      exact ⟨e, by simpa using he, h2, h3⟩

/-- All but the last. -/
def initL : List Oper → List Oper
  | [] => []
  | [_] => []
  | o :: o' :: l => o :: initL (o' :: l)
/-- The last alone. -/
def endL : List Oper → List Oper
  | [] => []
  | [o] => [o]
  | _ :: o' :: l => endL (o' :: l)
theorem init_end : ∀ l : List Oper, l = initL l ++ endL l
  | [] => rfl
  | [_] => rfl
  | o :: o' :: l => by
    have := init_end (o' :: l)
    simp only [initL, endL, List.cons_append]
    rw [← this]
theorem end_one : ∀ l : List Oper, l ≠ [] → ∃ o, endL l = [o]
  | [], h => absurd rfl h
  | [o], _ => ⟨o, rfl⟩
  | _ :: o' :: l, _ => end_one (o' :: l) (by simp)

theorem wp_region_last {id : Nat} {a : Act} {w : World} {l : List Oper} (hm : P.follows .mixedOrders = true) (hne : l ≠ []) (hs : Region.noSelect l.toArray = true)
    (hB : lexL .any l.toArray (l.length - 1) (l.length - 1) 0 (Array.replicate l.length false) = true)
    (h : wpQuiet P l.toArray (fun w' => ∃ u : Cls w, w' = u.it) (fun a' => ∀ w', (∃ u : Cls w, w' = u.it) → wpList P l.toArray Q (endL l) a' w') (initL l) a) : (Code.region id l.toArray true).wp P Q a w := by
  obtain ⟨o, ho⟩ := end_one l hne
  have hsp := init_end l
  rw [ho] at hsp
  have hlen : (initL l).length = l.length - 1 := by have := congrArg List.length hsp; simp at this; omega
  have hpos : l.length = (initL l).length + 1 := by have := congrArg List.length hsp; simpa using this
  have hget : ∀ j, j < (initL l).length → (initL l)[j]? = l.toArray[0 + j]? := fun j hj => by
    rw [Nat.zero_add, List.getElem?_toArray, hsp, List.getElem?_append_left (by simpa [← hsp] using hj)]
    rw [← hsp]
  have hlast : l.toArray[l.length - 1]? = some o := by
    have h1 : (initL l ++ [o])[(initL l).length]? = some o := by simp
    rw [← hsp] at h1
    rw [List.getElem?_toArray, ← hlen]
    exact h1
  refine wp_region_any hm ?_
  have key := any_of_L (P := P) (md := .any) (ops := l.toArray) (C := fun w' => ∃ u : Cls w, w' = u.it) (last := l.length - 1) (Q := Q) ((initL l).length + 1) (Array.replicate l.length false) a { w with drawn := w.drawn + 1 }
    ⟨⟨_, (Below.refl w.heap.size w).drew⟩, rfl⟩
    (anyL_lex hs (initL l) 0 _ a hget (by omega) (by rw [hlen]; exact hB) (by
      have e1 : (fun a' => ∀ w', (∃ u : Cls w, w' = u.it) → wpList P l.toArray Q (endL l) a' w') = (fun a' => ∀ w', (∃ u : Cls w, w' = u.it) → wpOp P l.toArray Q (l.length - 1) (fun a'' w'' => Q .normal a'' w'') a' w') := by
        funext a'
        rw [ho]
        simp only [wpOp, hlast, wpList]
      rw [← e1]
      exact h))
  rw [← hpos] at key
  simpa using key
end
end Go.Proofs.Ytfjlbgegjjdflaa

namespace Go.Proofs.Ytfjlbgegjjdflaa
open Go.RowKit

theorem most_quick {q s fr b : Int} {l : List Stp} (h : pathB q s fr b l = true) (k : Nat) : q ≤ mostB s l k := by
  have := kind_range h
  unfold mostB; split <;> omega

theorem bwd_in {q s fr b : Int} {l : List Stp} (hp : pathB q s fr b l = true) {n : Nat} (hf : fwdTo q s fr b l (n + 1) = true) : ∀ j, j ≤ n →
    (bwdS q s fr b l n j).1 ≤ (bwdS q s fr b l n j).2 ∧ (fwdS q s fr b l (n - j)).1 ≤ (bwdS q s fr b l n j).1 ∧ (bwdS q s fr b l n j).2 ≤ (fwdS q s fr b l (n - j)).2
  | 0, _ => by
    have := fwdTo_at hf (show n < n + 1 by omega)
    exact ⟨this, Int.le_refl _, Int.le_refl _⟩
  | j + 1, hj => by
    obtain ⟨h1, h2, h3⟩ := bwd_in hp hf j (by omega)
    obtain ⟨k, hk⟩ : ∃ k, n - (j + 1) = k ∧ n - j = k + 1 := ⟨n - (j + 1), rfl, by omega⟩
    rw [hk.2] at h2 h3
    have h0 := fwdTo_at hf (show k < n + 1 by omega)
    have hm := most_quick hp k
    simp only [fwdS] at h2 h3
    have m1 := mxB_le (lowB fr l (k + 1)) ((fwdS q s fr b l k).1 + q)
    have m2 := mnB_le (highB b l (k + 1)) ((fwdS q s fr b l k).2 + mostB s l k)
    simp only [bwdS]
    rw [hk.1]
    have m3 := mxB_le (fwdS q s fr b l k).1 ((bwdS q s fr b l n j).1 - mostB s l k)
    have m4 := mnB_le (fwdS q s fr b l k).2 ((bwdS q s fr b l n j).2 - q)
    refine ⟨?_, ?_, ?_⟩ <;> omega

theorem bwd_all {q s fr b : Int} {l : List Stp} (hp : pathB q s fr b l = true) {n : Nat} (hf : fwdTo q s fr b l (n + 1) = true) {k : Nat} (hk : k ≤ n + 1) : bwdTo q s fr b l n k = true := by
  unfold bwdTo
  rw [List.all_eq_true]
  intro i hi
  have := (bwd_in hp hf i (by have := List.mem_range.1 hi; omega)).1
  simpa [someB] using this

theorem span_fwd {q s fr b : Int} {l : List Stp} (hp : pathB q s fr b l = true) : spanB q s fr b l = fwdTo q s fr b l (l.length + 1) := by
  unfold spanB
  cases h : fwdTo q s fr b l (l.length + 1) with
  | false => rfl
  | true => rw [bwd_all hp h (Nat.le_refl _)]; rfl

/-- Windows within the ticks that there are: of a path that is ok, or of one that is ok but for its windows. -/
structure Wide (q s fr b : Int) (l : List Stp) : Prop where
  kind : 1 ≤ q ∧ q ≤ s ∧ s ≤ 50
  len : 1 ≤ l.length ∧ l.length ≤ 40
  win : ∀ k, 0 ≤ lowB fr l k ∧ highB b l k ≤ 10000
theorem Wide.of {q s fr b : Int} {l : List Stp} (h : pathB q s fr b l = true) : Wide q s fr b l := ⟨kind_range h, path_len h, bounds_ok h⟩
theorem Wide.fwd_range {q s fr b : Int} {l : List Stp} (h : Wide q s fr b l) (k : Nat) : 0 ≤ (fwdS q s fr b l k).1 ∧ (fwdS q s fr b l k).2 ≤ 10000 := by
  have hb := h.win k
  cases k with
  | zero => exact hb
  | succ m =>
    have h1 := mxB_le (lowB fr l (m + 1)) ((fwdS q s fr b l m).1 + q)
    have h2 := mnB_le (highB b l (m + 1)) ((fwdS q s fr b l m).2 + mostB s l m)
    simp only [fwdS]
    omega
theorem Wide.most_range {q s fr b : Int} {l : List Stp} (h : Wide q s fr b l) (k : Nat) : 1 ≤ mostB s l k ∧ mostB s l k ≤ 10000 := by
  have := h.kind
  unfold mostB; split <;> omega
theorem Wide.quick {q s fr b : Int} {l : List Stp} (h : Wide q s fr b l) (k : Nat) : q ≤ mostB s l k := by
  have := h.kind
  unfold mostB; split <;> omega
theorem Wide.bwd_in {q s fr b : Int} {l : List Stp} (hp : Wide q s fr b l) {n : Nat} (hf : fwdTo q s fr b l (n + 1) = true) : ∀ j, j ≤ n →
    (bwdS q s fr b l n j).1 ≤ (bwdS q s fr b l n j).2 ∧ (fwdS q s fr b l (n - j)).1 ≤ (bwdS q s fr b l n j).1 ∧ (bwdS q s fr b l n j).2 ≤ (fwdS q s fr b l (n - j)).2
  | 0, _ => by
    have := fwdTo_at hf (show n < n + 1 by omega)
    exact ⟨this, Int.le_refl _, Int.le_refl _⟩
  | j + 1, hj => by
    obtain ⟨h1, h2, h3⟩ := hp.bwd_in hf j (by omega)
    obtain ⟨k, hk⟩ : ∃ k, n - (j + 1) = k ∧ n - j = k + 1 := ⟨n - (j + 1), rfl, by omega⟩
    rw [hk.2] at h2 h3
    have h0 := fwdTo_at hf (show k < n + 1 by omega)
    have hm := hp.quick k
    simp only [fwdS] at h2 h3
    have m1 := mxB_le (lowB fr l (k + 1)) ((fwdS q s fr b l k).1 + q)
    have m2 := mnB_le (highB b l (k + 1)) ((fwdS q s fr b l k).2 + mostB s l k)
    simp only [bwdS]
    rw [hk.1]
    have m3 := mxB_le (fwdS q s fr b l k).1 ((bwdS q s fr b l n j).1 - mostB s l k)
    have m4 := mnB_le (fwdS q s fr b l k).2 ((bwdS q s fr b l n j).2 - q)
    refine ⟨?_, ?_, ?_⟩ <;> omega
theorem Wide.span_fwd {q s fr b : Int} {l : List Stp} (hp : Wide q s fr b l) : spanB q s fr b l = fwdTo q s fr b l (l.length + 1) := by
  unfold spanB
  cases h : fwdTo q s fr b l (l.length + 1) with
  | false => rfl
  | true =>
    have : bwdTo q s fr b l l.length (l.length + 1) = true := by
      unfold bwdTo
      rw [List.all_eq_true]
      intro i hi
      have := (hp.bwd_in h i (by have := List.mem_range.1 hi; omega)).1
      simpa [someB] using this
    rw [this]; rfl

/-- What FlySpans tells. -/
def flyL (q s fr b : Int) (l : List Stp) : List (Int × Int) := if pathB q s fr b l then spansL q s fr b l else []
def flyB (q s fr b : Int) (l : List Stp) : Bool := pathB q s fr b l && spanB q s fr b l
end Go.Proofs.Ytfjlbgegjjdflaa

namespace Go.Proofs.Ytfjlbgegjjdflaa
open Go.RowKit

/-- The row when j ticks ahead of the last one are done. -/
def backL (q s fr b : Int) (l : List Stp) (n j : Nat) : List (Int × Int) := (List.range (n + 1)).map fun i => if n - j ≤ i then bwdS q s fr b l n (n - i) else fwdS q s fr b l i

theorem backL_length (q s fr b : Int) (l : List Stp) (n j : Nat) : (backL q s fr b l n j).length = n + 1 := by simp [backL]
theorem backL_get (q s fr b : Int) (l : List Stp) (n j i : Nat) (h : i < n + 1) : (backL q s fr b l n j)[i]? = some (if n - j ≤ i then bwdS q s fr b l n (n - i) else fwdS q s fr b l i) := by simp [backL, h]
theorem backL_zero (q s fr b : Int) (l : List Stp) (n : Nat) : backL q s fr b l n 0 = fwdL q s fr b l (n + 1) := by
  unfold backL fwdL
  apply List.map_congr_left
  intro i hi
  have hi' := List.mem_range.1 hi
  by_cases h : n - 0 ≤ i
  · have e : i = n := by omega
    rw [if_pos h, e, Nat.sub_self]; rfl
  · rw [if_neg h]
theorem backL_all {q s fr b : Int} {l : List Stp} (h : spanB q s fr b l = true) : backL q s fr b l l.length l.length = spansL q s fr b l := by
  unfold backL spansL
  rw [if_pos h]
  apply List.map_congr_left
  intro i _
  rw [if_pos (by omega)]
theorem backL_now (q s fr b : Int) (l : List Stp) (n j : Nat) (h : j < n) : (backL q s fr b l n j)[n - (j + 1)]? = some (fwdS q s fr b l (n - (j + 1))) := by
  rw [backL_get _ _ _ _ _ _ _ _ (by omega), if_neg (by omega)]
theorem backL_next (q s fr b : Int) (l : List Stp) (n j : Nat) (h : j < n) : (backL q s fr b l n j)[n - (j + 1) + 1]? = some (bwdS q s fr b l n j) := by
  rw [backL_get _ _ _ _ _ _ _ _ (by omega), if_pos (by omega)]
  congr 2
  omega
theorem backL_succ (q s fr b : Int) (l : List Stp) (n j : Nat) (h : j < n) : backL q s fr b l n (j + 1) = (backL q s fr b l n j).set (n - (j + 1)) (bwdS q s fr b l n (j + 1)) := by
  apply List.ext_getElem?
  intro i
  by_cases hi : i < n + 1
  · rw [backL_get _ _ _ _ _ _ _ _ hi]
    by_cases e : n - (j + 1) = i
    · rw [← e, List.getElem?_set_self (by rw [backL_length]; omega), if_pos (by omega)]
      congr 2
      omega
    · rw [List.getElem?_set_ne e, backL_get _ _ _ _ _ _ _ _ hi]
      by_cases h2 : n - j ≤ i
      · rw [if_pos h2, if_pos (by omega)]
      · rw [if_neg h2, if_neg (by omega)]
  · rw [List.getElem?_eq_none (by rw [backL_length]; omega), List.getElem?_eq_none (by rw [List.length_set, backL_length]; omega)]

theorem spanCells_set : ∀ (xs : List (Int × Int)) (i : Nat) (x : Int × Int), spanCells (xs.set i x) = ((spanCells xs).set (i * 2) (.int .i64 x.1)).set (i * 2 + 1) (.int .i64 x.2)
  | [], i, x => by simp [spanCells]
  | y :: ys, 0, x => by simp [spanCells]
  | y :: ys, i + 1, x => by
    have ih := spanCells_set ys i x
    have e : ∀ zs : List (Int × Int), spanCells (y :: zs) = .int .i64 y.1 :: .int .i64 y.2 :: spanCells zs := fun zs => by simp [spanCells]
    rw [List.set_cons_succ, e, e, ih, show (i + 1) * 2 = i * 2 + 1 + 1 by omega]
    simp

/-- A store into a row that a call owns. -/
theorem owns_put {w : World} {base e size n g cap : Nat} {xs : List Value} (h : w.ownsRow base e size (.slice (some ⟨g, 0, none⟩) n cap) n xs) {j : Nat} (_hj : j < n * size) (u : Value) :
    (w.setCell ⟨g, j, none⟩ u).ownsRow base e size (.slice (some ⟨g, 0, none⟩) n cap) n (xs.set j u) := by
  refine ⟨by rw [List.length_set]; exact h.1, ?_⟩
  rcases h.2 with ⟨h0, _⟩ | ⟨g', cap', cur, h1, h2, h3, h4, h5, h6, h7⟩
  · cases h0
  · simp only [Value.slice.injEq, Option.some.injEq, Addr.mk.injEq, and_true, true_and] at h1
    obtain ⟨rfl, rfl⟩ := h1
    refine Or.inr ⟨g, cap, _, rfl, h2, heap_setCell_same w g j cur e u h3, h4, h5, by rw [Array.size_setIfInBounds]; exact h6, ?_⟩
    rw [← h7, Array.toList_setIfInBounds, List.take_set]
end Go.Proofs.Ytfjlbgegjjdflaa

namespace Go.Proofs.Ytfjlbgegjjdflaa
open Go.RowKit

theorem max_any (a b : Int) (w : World) : Calls Try.prog 59 #[.int .i64 a, .int .i64 b] w fun e w' => e = .returned (.int .i64 (mxB a b)) ∧ w' = w := by
  by_cases h : b < a
  · have HE : Hid (mxB a b = a) := by show _ = _; unfold mxB; rw [if_pos h]
    go_enter Try.func59, Try.ntmps59
    go_wp2
    go_ret
    exact ⟨by rw [HE.out]; rfl, rfl⟩
  · have HE : Hid (mxB a b = b) := by show _ = _; unfold mxB; rw [if_neg h]
    go_enter Try.func59, Try.ntmps59
    go_wp2
    go_ret
    exact ⟨by rw [HE.out]; rfl, rfl⟩
theorem min_any (a b : Int) (w : World) : Calls Try.prog 58 #[.int .i64 a, .int .i64 b] w fun e w' => e = .returned (.int .i64 (mnB a b)) ∧ w' = w := by
  by_cases h : a < b
  · have HE : Hid (mnB a b = a) := by show _ = _; unfold mnB; rw [if_pos h]
    go_enter Try.func58, Try.ntmps58
    go_wp2
    go_ret
    exact ⟨by rw [HE.out]; rfl, rfl⟩
  · have HE : Hid (mnB a b = b) := by show _ = _; unfold mnB; rw [if_neg h]
    go_enter Try.func58, Try.ntmps58
    go_wp2
    go_ret
    exact ⟨by rw [HE.out]; rfl, rfl⟩

theorem span_info : (Try.prog.info? 38).map (fun i => (i.zero, i.size, i.bytes)) = some (some (.agg #[.int .i64 0, .int .i64 0]), 2, 16) := by kernel_rfl

set_option maxRecDepth 20000 in
set_option maxHeartbeats 4000000 in
theorem spansS_wide (q s fr b : Int) (a : Option Addr) (b0 o cap : Nat) (l : List Stp) (w : World) (hs : StepsAt w a b0 o l) (hp : Wide q s fr b l) :
    Calls Try.prog 38 #[.agg #[.int .i64 q, .int .i64 s, .slice a l.length cap, .int .i64 fr, .int .i64 b]] w
      fun e w' => ∃ v, e = .returned (.tuple #[v, .bool (spanB q s fr b l)]) ∧ w'.ownsRow w.heap.size 38 2 v (spansL q s fr b l).length (spanCells (spansL q s fr b l)) ∧ Below w.heap.size w w' := by
  obtain ⟨i0, hi, hz0, hz1, hz2⟩ := info_parts span_info
  have HL := hp.len
  have hl : l.length ≤ 1048576 := by omega
  have HK := hp.kind
  go_enter Try.func38, Try.ntmps38
  go_wp2
  go_loopw [4, 6] (fun v u wr => ∃ k : Nat, k ≤ l.length + 1 ∧ u = .int .i64 k ∧ BoxP w wr q s fr b (.slice a l.length cap) ∧ wr.ownsRow (w.heap.size + 1) 38 2 v k (spanCells (fwdL q s fr b l k)) ∧ fwdTo q s fr b l k = true) (fun _ u _ => l.length + 1 - (intOf u).toNat)
  case atStart =>
    refine ⟨0, Nat.zero_le _, rfl, (BoxP.new w q s fr b _ _).keep ((Below.refl _ _).alloc (by simp) _), ?_, rfl⟩
    have h0 := owns_empty (base := w.heap.size + 1) (e := 38) (size := 2) (w := w.alloc (.cells #[.int .i64 q, .int .i64 s, .slice a l.length cap, .int .i64 fr, .int .i64 b] 27)) (by simp)
    rw [World.size_alloc] at h0
    exact h0
  case round =>
    obtain ⟨k, hk, rfl, hB, hown, hgood⟩ := hrel
    have HG : Hid (fwdTo q s fr b l k = true) := hgood
    clear hgood
    by_cases hlt : k < l.length + 1
    · have p0 := hB.p0
      have p1 := hB.p1
      have p2 := hB.p2
      have p3 := hB.p3
      have p4 := hB.p4
      have pl := hB.lt
      have k0 : (0 : Int) ≤ (k : Int) := by omega
      have k1 : (k : Int) ≤ (l.length : Int) := by omega
      have hS0 := hs.below hB.old hs.lt
      have hS : ∀ W, Below wr.heap.size wr W → StepsAt W a b0 o l := fun W h => hS0.below h hS0.lt
      have hR := Below.refl wr.heap.size wr
      go_wp2
      go_cut [7] (fun s7 wc => ∃ B, s7 = .pointer (some ⟨B, 0, none⟩) ∧ wr.heap.size ≤ B ∧ Below wr.heap.size wr wc ∧ wc.heap[B]? = some (.cells #[.int .i64 (lowB fr l k), .int .i64 (highB b l k)] 38 (0, 0)))
      case first =>
        go_region_held3 (fun w' => w'.cell? ⟨w.heap.size, 0, none⟩ = some (.int .i64 q) ∧ w'.cell? ⟨w.heap.size, 1, none⟩ = some (.int .i64 s) ∧ w'.cell? ⟨w.heap.size, 2, none⟩ = some (.slice a l.length cap) ∧ w'.cell? ⟨w.heap.size, 3, none⟩ = some (.int .i64 fr) ∧ w'.cell? ⟨w.heap.size, 4, none⟩ = some (.int .i64 b))
          (simp [go_sem, World.cell?_alloc_lt, *])
          (first
            | (go_at_call 42; refine (low_any _ _ _ _ _ b0 o _ _ k _ hl (hS _ ?_)).mono ?_; (first | exact hR.drew | exact hR.drew.alloc (Nat.le_refl _) _); rintro e w2 ⟨rfl, hb2⟩; have hb02 : Below wr.heap.size wr w2 := (by first | exact hR.drew.trans hb2 | exact (hR.drew.alloc (Nat.le_refl _) _).trans (hb2.mono (by simp))); have y0 : ∀ j, w2.cell? ⟨w.heap.size, j, none⟩ = wr.cell? ⟨w.heap.size, j, none⟩ := fun j => hb02.cell (p := ⟨w.heap.size, j, none⟩) pl; have z2 : w.heap.size < w2.heap.size := Nat.lt_of_lt_of_le pl hb02.size; (first | (have T2 : w2.heap[wr.heap.size]? = some (.cells #[.int .i64 0, .int .i64 0] 38 (0, 0)) := blk2_after hb2; obtain ⟨t20, t21, t22⟩ := blk2 T2) | (have T2 : w2.heap[wr.heap.size]? = some (.cells #[.int .i64 0, .int .i64 0] 38 (0, 0)) := blk2_after_drew hb2; obtain ⟨t20, t21, t22⟩ := blk2 T2) | skip))
            | (go_at_call 43; refine (high_any _ _ _ _ _ b0 o _ _ k _ hl (hS _ ?_)).mono ?_; (first | exact hb02 | exact hb02.alloc hb02.size _); rintro e w3 ⟨rfl, hb3⟩; have hb03 : Below wr.heap.size wr w3 := (by first | exact hb02.trans (hb3.mono hb02.size) | exact (hb02.alloc hb02.size _).trans (hb3.mono (by have := hb02.size; simp; omega))); have y1 : ∀ j, w3.cell? ⟨w.heap.size, j, none⟩ = wr.cell? ⟨w.heap.size, j, none⟩ := fun j => hb03.cell (p := ⟨w.heap.size, j, none⟩) pl; have z3 : w.heap.size < w3.heap.size := Nat.lt_of_lt_of_le pl hb03.size; (first | (have T3 := blk2_kept T2 hb3; obtain ⟨t30, t31, t32⟩ := blk2 T3) | (have T3 := blk2_after hb3; obtain ⟨t30, t31, t32⟩ := blk2 T3) | (have hw3 : Below w2.heap.size w2 w3 := hb3))))
        · go_wp2
          go_meet
          case rel => exact ⟨w3.heap.size, rfl, hb03.size, hb03.alloc hb03.size _, heap_alloc_new w3 _⟩
        · go_wp2
          go_meet
          case rel => exact ⟨w2.heap.size, rfl, hb02.size, (hb03.setCell (p := ⟨w2.heap.size, 0, none⟩) hb02.size _).setCell (p := ⟨w2.heap.size, 1, none⟩) hb02.size _, blk2_set1 (blk2_set0 T3 _) _⟩
        · go_wp2
          go_meet
          case rel => exact ⟨wr.heap.size, rfl, Nat.le_refl _, (hb03.setCell (p := ⟨wr.heap.size, 0, none⟩) (Nat.le_refl _) _).setCell (p := ⟨wr.heap.size, 1, none⟩) (Nat.le_refl _) _, blk2_set1 (blk2_set0 T3 _) _⟩
      case rest =>
        clear p0 p1 p2 p3 p4 hS hR
        obtain ⟨B, rfl, hBs, hbc, hblk⟩ := hcut
        have hBc := hB.below hbc
        have hownc := owns_below hown hbc
        have hBlt := lt_of_block hblk
        have hBne : ∀ j, u4.ownBlock = some j → j ≠ B := fun j hj => by have := owns_lt hown j hj; omega
        go_upto_if 26 with (fail)
        go_cut [] (fun wd => Below wr.heap.size wr wd ∧ wd.heap[B]? = some (.cells #[.int .i64 (fwdS q s fr b l k).1, .int .i64 (fwdS q s fr b l k).2] 38 (0, 0)))
        case first =>
          rcases Nat.eq_zero_or_pos k with hk0 | hk0
          · subst hk0
            go_wp2
            go_meet
            case rel => exact ⟨hbc, hblk⟩
          · obtain ⟨m, rfl⟩ : ∃ m, k = m + 1 := ⟨k - 1, by omega⟩
            have hml : m < l.length := by omega
            obtain ⟨g, ocap, rfl, hg1, hg2⟩ := owns_some hown (by omega)
            have hx0 := (hownc.cellAt (m * 2) (by omega)).trans (spanCells_get _ m _ (fwdL_get q s fr b l (m + 1) m (by omega))).1
            have hx1 := (hownc.cellAt (m * 2 + 1) (by omega)).trans (spanCells_get _ m _ (fwdL_get q s fr b l (m + 1) m (by omega))).2
            obtain ⟨c0, c1, cf⟩ := blk2 hblk
            have p0 := hBc.p0
            have p1 := hBc.p1
            have p2 := hBc.p2
            have p3 := hBc.p3
            have p4 := hBc.p4
            have pl := hBc.lt
            have r1 := hp.fwd_range m
            have r2 := fwdTo_at HG.out (show m < m + 1 by omega)
            have hgc : g < wc.heap.size := Nat.lt_of_lt_of_le hg2 hbc.size
            obtain ⟨f1, hf1⟩ : ∃ f1, (fwdS q s fr b l m).1 = f1 := ⟨_, rfl⟩
            obtain ⟨f2, hf2⟩ : ∃ f2, (fwdS q s fr b l m).2 = f2 := ⟨_, rfl⟩
            have F1 : Hid ((fwdS q s fr b l m).1 = f1) := hf1
            have F2 : Hid ((fwdS q s fr b l m).2 = f2) := hf2
            rw [hf1] at hx0 r1 r2
            rw [hf2] at hx1 r1 r2
            clear hf1 hf2
            have wm : IntKind.i64.wrap (m : Int) = (m : Int) := by rw [IntKind.wrap_i64]; omega
            have wf : IntKind.i64.wrap (f1 + q) = f1 + q := by rw [IntKind.wrap_i64]; omega
            have m0 : (0 : Int) ≤ (m : Int) := by omega
            have m1 : (m : Int) < (m : Int) + 1 := by omega
            have qn := Cls.any wc
            have q0 := Cls.cell hBlt
            have q1 := Cls.cell hgc
            have q2 := Cls.cell pl
            go_wp2
            refine wp_region_last (by kernel_rfl) (by simp) (by kernel_rfl) (by kernel_rfl) ?_
            simp only [initL, endL]
            repeat (go_big_quiet_step ((go_at_call 59; exact Calls.cls_of_same (max_any _ _ _))))
            refine wpQuiet_nil ?_
            rintro _ ⟨u, rfl⟩
            have T1 := blk2_kept hblk u.same
            obtain ⟨t0, t1, tf⟩ := blk2 T1
            clear c0 c1 cf q0 q1 q2 qn p0 p1 p2 p3 p4 pl
            go_wp2
            have T2 := blk2_set0 T1 (.int .i64 (mxB (lowB fr l (m + 1)) (f1 + q)))
            have bu : Below wr.heap.size wr u.it := hbc.trans (u.same.mono hbc.size)
            have b8 : Below wr.heap.size wr (u.it.setCell ⟨B, 0, none⟩ (.int .i64 (mxB (lowB fr l (m + 1)) (f1 + q)))) := bu.setCell (p := ⟨B, 0, none⟩) hBs _
            clear T1 t0 t1 tf bu
            generalize u.it.setCell ⟨B, 0, none⟩ (.int .i64 (mxB (lowB fr l (m + 1)) (f1 + q))) = w8 at T2 b8 ⊢
            have hBc8 := hB.below b8
            have hown8 := owns_below hown b8
            have hx8 := (hown8.cellAt (m * 2 + 1) (by omega)).trans (spanCells_get _ m _ (fwdL_get q s fr b l (m + 1) m (by omega))).2
            rw [F2.out] at hx8
            clear hx0 hx1
            obtain ⟨c0, c1, cf⟩ := blk2 T2
            have p0 := hBc8.p0
            have p1 := hBc8.p1
            have p2 := hBc8.p2
            have p3 := hBc8.p3
            have p4 := hBc8.p4
            have pl := hBc8.lt
            have hg8 : g < w8.heap.size := Nat.lt_of_lt_of_le hg2 b8.size
            have hB8 : B < w8.heap.size := lt_of_block T2
            have mr := hp.most_range m
            obtain ⟨mo, hmo⟩ : ∃ mo, mostB s l m = mo := ⟨_, rfl⟩
            have MO : Hid (mostB s l m = mo) := hmo
            rw [hmo] at mr
            have wf2 : IntKind.i64.wrap (f2 + mo) = f2 + mo := by rw [IntKind.wrap_i64]; omega
            have qn := Cls.any w8
            have q0 := Cls.cell hB8
            have q1 := Cls.cell hg8
            have q2 := Cls.cell pl
            have hS8 : ∀ u : Cls w8, StepsAt u.it a b0 o l := fun u => (hs.below hBc8.old hs.lt).below u.same (hs.below hBc8.old hs.lt).lt
            have HM : ∀ (u : Cls w8), Calls Try.prog 44 #[.agg #[.int .i64 q, .int .i64 s, .slice a l.length cap, .int .i64 fr, .int .i64 b], .int .i64 (m : Int)] u.it fun e w' => e = .returned (.int .i64 mo) ∧ Below u.it.heap.size u.it w' := fun u => by
              have := most_any q s fr b a b0 o cap l m u.it hl (hS8 u) hml
              rwa [hmo] at this
            clear hmo hS8
            refine wp_region_last (by kernel_rfl) (by simp) (by kernel_rfl) (by kernel_rfl) ?_
            simp only [initL, endL]
            repeat (go_big_quiet_step (first | (go_at_call 44; exact Calls.cls_of (HM _)) | (go_at_call 58; exact Calls.cls_of_same (min_any _ _ _))))
            refine wpQuiet_nil ?_
            rintro _ ⟨u2, rfl⟩
            have T3 := blk2_kept T2 u2.same
            obtain ⟨t0, t1, tf⟩ := blk2 T3
            clear c0 c1 cf q0 q1 q2 qn p0 p1 p2 p3 p4 pl HM
            go_wp2
            go_meet
            case rel =>
              refine ⟨(b8.trans (u2.same.mono b8.size)).setCell (p := ⟨B, 1, none⟩) hBs _, ?_⟩
              have T4 := blk2_set1 T3 (.int .i64 (mnB (highB b l (m + 1)) (f2 + mo)))
              simp only [fwdS]
              rw [F1.out, F2.out, MO.out]
              exact T4
        case rest =>
          obtain ⟨hbd, hblkd⟩ := hcut
          have hBd := hB.below hbd
          have hownd := owns_below hown hbd
          obtain ⟨c0, c1, cf⟩ := blk2 hblkd
          clear hblk hbc hBc hownc
          cases hsm : someB (fwdS q s fr b l k) with
          | false =>
            have hgt : (fwdS q s fr b l k).2 < (fwdS q s fr b l k).1 := by simp [someB] at hsm; omega
            have HE : Hid (spanB q s fr b l = false) := by show _ = _; unfold spanB; rw [fwdTo_not hlt hsm]; rfl
            have HE2 : Hid (spansL q s fr b l = []) := by show _ = _; unfold spansL; rw [HE.out]; rfl
            have H0 : Hid ((wc.alloc (.cells #[] 38)).ownsRow w.heap.size 38 2 (.slice (some ⟨wc.heap.size, 0, none⟩) 0 0) 0 []) := owns_empty (by have := hBd.lt; omega)
            clear hsm
            go_wp2
            go_ret2
            exact ⟨_, by rw [HE.out]; rfl, by rw [HE2.out]; exact H0.out, hBd.old.alloc (by have := hBd.lt; omega) _⟩
          | true =>
            have hle : ¬ (fwdS q s fr b l k).2 < (fwdS q s fr b l k).1 := by simp [someB] at hsm; omega
            have G1 : Hid (fwdTo q s fr b l (k + 1) = true) := by show _ = _; rw [fwdTo_succ HG.out, hsm]
            clear hsm
            have hz := hBd.lt
            go_wp2_with (at_builtin; (refine wpList_append_own _ rfl _ _ 31 rfl (w.heap.size + 1) 38 i0 (.agg #[.int .i64 0, .int .i64 0]) 2 16 Try.underlying31 hi hz0 hz1 hz2 rfl (by decide) _ _ _ rfl (hownd.alloc _) ⟨wc.heap.size, 0, none⟩ 1 1 (spanC (fwdS q s fr b l k)) rfl rfl (two_new _ _ _ _) (by simp [Value.oneCell']) (by unfold maxLen; omega) (by omega) (by simp; omega) ?_); intro v' w1 hown' hgrow _)
            have hbel : Below (w.heap.size + 1) wr w1 := ((hbd.mono (by omega)).alloc (by omega) _).grown hgrow (by simp; omega) (owns_base hownd)
            refine ⟨⟨k + 1, by omega, by go_num, hB.keep hbel, ?_, G1.out⟩, by simp [intOf]; omega⟩
            rw [fwdL_succ, spanCells_snoc]
            exact hown'
    · obtain rfl : k = l.length + 1 := by omega
      obtain ⟨g, ocap, rfl, hg1, hg2⟩ := owns_some hown (by omega)
      rw [← backL_zero] at hown
      go_wp2
      go_loopw [8] (fun v wi => ∃ i : Nat, i ≤ l.length ∧ v = .int .i64 ((i : Int) - 1) ∧ BoxP w wi q s fr b (.slice a l.length cap) ∧ wi.ownsRow (w.heap.size + 1) 38 2 (.slice (some ⟨g, 0, none⟩) (l.length + 1) ocap) (l.length + 1) (spanCells (backL q s fr b l l.length (l.length - i)))) (fun v _ => (intOf v + 1).toNat)
      case atStart => exact ⟨l.length, Nat.le_refl _, rfl, hB, by rw [Nat.sub_self]; exact hown⟩
      case round =>
        clear hB hown hg2
        obtain ⟨i, hi', rfl, hB, hown⟩ := hrel
        rcases i with _ | m
        · have HE : Hid (spanB q s fr b l = true) := by show _ = _; rw [hp.span_fwd]; exact HG.out
          have HL2 : Hid ((spansL q s fr b l).length = l.length + 1) := by show _ = _; rw [← backL_all HE.out, backL_length]
          go_wp2
          go_ret2
          refine ⟨_, by rw [HE.out]; rfl, ?_, hB.old⟩
          rw [HL2.out, ← backL_all HE.out]
          refine ⟨hown.1, hown.2.imp id fun ⟨g, cap, cur, h1, h2, h3⟩ => ⟨g, cap, cur, h1, by omega, h3⟩⟩
        · have e0 : (((m + 1 : Nat) : Int) - 1) = (m : Int) := by omega
          rw [e0]
          obtain ⟨J, hJ, e1, e2, e3⟩ : ∃ J, J < l.length ∧ l.length - (m + 1) = J ∧ l.length - (J + 1) = m ∧ l.length - m = J + 1 := ⟨l.length - (m + 1), by omega, rfl, by omega, by omega⟩
          rw [e1] at hown
          have gn := backL_now q s fr b l l.length J hJ
          have gx := backL_next q s fr b l l.length J hJ
          rw [e2] at gn gx
          have x0 := (hown.cellAt (m * 2) (by omega)).trans (spanCells_get _ m _ gn).1
          have x1 := (hown.cellAt (m * 2 + 1) (by omega)).trans (spanCells_get _ m _ gn).2
          have y0 := (hown.cellAt ((m + 1) * 2) (by omega)).trans (spanCells_get _ (m + 1) _ gx).1
          have y1 := (hown.cellAt ((m + 1) * 2 + 1) (by omega)).trans (spanCells_get _ (m + 1) _ gx).2
          have r1 := hp.fwd_range m
          have r2 := fwdTo_at HG.out (show m < l.length + 1 by omega)
          have r3 := hp.bwd_in HG.out J (by omega)
          have r4 := hp.fwd_range (l.length - J)
          have r5 := hp.bwd_in HG.out (J + 1) (by omega)
          have BS : Hid (bwdS q s fr b l l.length (J + 1) = (mxB (fwdS q s fr b l m).1 ((bwdS q s fr b l l.length J).1 - mostB s l m), mnB (fwdS q s fr b l m).2 ((bwdS q s fr b l l.length J).2 - q))) := by
            show _ = _
            simp only [bwdS]
            rw [e2]
          have hle := r5.1
          rw [BS.out] at hle
          have hml : m < l.length := by omega
          have mr := hp.most_range m
          clear r5 gn gx
          obtain ⟨f1, hf1⟩ : ∃ f1, (fwdS q s fr b l m).1 = f1 := ⟨_, rfl⟩
          obtain ⟨f2, hf2⟩ : ∃ f2, (fwdS q s fr b l m).2 = f2 := ⟨_, rfl⟩
          obtain ⟨h1, hh1⟩ : ∃ h1, (bwdS q s fr b l l.length J).1 = h1 := ⟨_, rfl⟩
          obtain ⟨h2, hh2⟩ : ∃ h2, (bwdS q s fr b l l.length J).2 = h2 := ⟨_, rfl⟩
          obtain ⟨mo, hmo⟩ : ∃ mo, mostB s l m = mo := ⟨_, rfl⟩
          rw [hf1] at x0 r1 r2
          rw [hf2] at x1 r1 r2
          rw [hh1] at y0 r3
          rw [hh2] at y1 r3
          rw [hmo] at mr
          have BS2 : Hid (bwdS q s fr b l l.length (J + 1) = (mxB f1 (h1 - mo), mnB f2 (h2 - q))) := by
            show _ = _
            rw [BS.out, hf1, hf2, hh1, hh2, hmo]
          have hle2 : mxB f1 (h1 - mo) ≤ mnB f2 (h2 - q) := by
            have := hle
            simp only [hf1, hf2, hh1, hh2, hmo] at this
            exact this
          obtain ⟨n1, hn1⟩ : ∃ n1, mxB f1 (h1 - mo) = n1 := ⟨_, rfl⟩
          obtain ⟨n2, hn2⟩ : ∃ n2, mnB f2 (h2 - q) = n2 := ⟨_, rfl⟩
          rw [hn1, hn2] at hle2
          have BS3 : Hid (bwdS q s fr b l l.length (J + 1) = (n1, n2)) := by show _ = _; rw [BS2.out, hn1, hn2]
          have MX : ∀ (W : World), Calls Try.prog 59 #[.int .i64 f1, .int .i64 (h1 - mo)] W fun e w' => e = .returned (.int .i64 n1) ∧ w' = W := fun W => by rw [← hn1]; exact max_any _ _ _
          have MN : ∀ (W : World), Calls Try.prog 58 #[.int .i64 f2, .int .i64 (h2 - q)] W fun e w' => e = .returned (.int .i64 n2) ∧ w' = W := fun W => by rw [← hn2]; exact min_any _ _ _
          have wf1 : IntKind.i64.wrap (h1 - mo) = h1 - mo := by rw [IntKind.wrap_i64]; omega
          have wf2 : IntKind.i64.wrap (h2 - q) = h2 - q := by rw [IntKind.wrap_i64]; omega
          have wm : IntKind.i64.wrap ((m : Int) + 1) = (m : Int) + 1 := by rw [IntKind.wrap_i64]; omega
          have hS0 := hs.below hB.old hs.lt
          have HM : ∀ (u : Cls wr), Calls Try.prog 44 #[.agg #[.int .i64 q, .int .i64 s, .slice a l.length cap, .int .i64 fr, .int .i64 b], .int .i64 (m : Int)] u.it fun e w' => e = .returned (.int .i64 mo) ∧ Below u.it.heap.size u.it w' := fun u => by
            have := most_any q s fr b a b0 o cap l m u.it hl (hS0.below u.same hS0.lt) hml
            rwa [hmo] at this
          clear hle BS BS2 hf1 hf2 hh1 hh2 hn1 hn2 hS0 r4
          have p0 := hB.p0
          have p1 := hB.p1
          have p2 := hB.p2
          have p3 := hB.p3
          have p4 := hB.p4
          have pl := hB.lt
          have hgr : g < wr.heap.size := (hown.lt g rfl).2
          have m0 : (0 : Int) ≤ (m : Int) := by omega
          have m1 : (m : Int) < (l.length : Int) + 1 := by omega
          have m2 : (m : Int) + 1 < (l.length : Int) + 1 := by omega
          have m3 : (0 : Int) ≤ (m : Int) + 1 := by omega
          have qn := Cls.any wr
          have q1 := Cls.cell hgr
          have q2 := Cls.cell pl
          go_wp2
          refine wp_region_last (by kernel_rfl) (by simp) (by kernel_rfl) (by kernel_rfl) ?_
          simp only [initL, endL]
          repeat (go_big_quiet_step (first | (go_at_call 44; exact Calls.cls_of (HM _)) | (go_at_call 59; exact Calls.cls_of_same (MX _))))
          refine wpQuiet_nil ?_
          rintro _ ⟨u, rfl⟩
          have hownu := owns_below hown u.same
          have t0 := (hownu.cellAt (m * 2) (by omega)).trans ((hown.cellAt (m * 2) (by omega)).symm.trans x0)
          have tf := hownu.frozenAt
          clear q1 q2 qn HM MX
          go_wp2
          have bu : Below (w.heap.size + 1) wr u.it := u.same.mono (by omega)
          have b8 : Below (w.heap.size + 1) wr (u.it.setCell ⟨g, m * 2, none⟩ (.int .i64 n1)) := bu.setCell (p := ⟨g, m * 2, none⟩) hg1 _
          have hown8 := owns_put hownu (j := m * 2) (by omega) (.int .i64 n1)
          have hlen : (spanCells (backL q s fr b l l.length J)).length = (l.length + 1) * 2 := hown.1
          have z0 : ((spanCells (backL q s fr b l l.length J)).set (m * 2) (.int .i64 n1))[m * 2]? = some (.int .i64 n1) := List.getElem?_set_self (by omega)
          have z1 : ((spanCells (backL q s fr b l l.length J)).set (m * 2) (.int .i64 n1))[m * 2 + 1]? = some (.int .i64 f2) := by
            rw [List.getElem?_set_ne (by omega), ← hown.cellAt (m * 2 + 1) (by omega)]; exact x1
          have z2 : ((spanCells (backL q s fr b l l.length J)).set (m * 2) (.int .i64 n1))[(m + 1) * 2 + 1]? = some (.int .i64 h2) := by
            rw [List.getElem?_set_ne (by omega), ← hown.cellAt ((m + 1) * 2 + 1) (by omega)]; exact y1
          clear t0 tf hownu bu x0 x1 y0 y1 p0 p1 p2 p3 p4
          generalize u.it.setCell ⟨g, m * 2, none⟩ (.int .i64 n1) = w8 at hown8 b8 ⊢
          have hB8 := hB.keep b8
          have x1 := (hown8.cellAt (m * 2 + 1) (by omega)).trans z1
          have y1 := (hown8.cellAt ((m + 1) * 2 + 1) (by omega)).trans z2
          have p0 := hB8.p0
          have p1 := hB8.p1
          have pl8 := hB8.lt
          have hgr8 : g < w8.heap.size := (hown8.lt g rfl).2
          have qn := Cls.any w8
          have q1 := Cls.cell hgr8
          have q2 := Cls.cell pl8
          refine wp_region_last (by kernel_rfl) (by simp) (by kernel_rfl) (by kernel_rfl) ?_
          simp only [initL, endL]
          repeat (go_big_quiet_step ((go_at_call 58; exact Calls.cls_of_same (MN _))))
          refine wpQuiet_nil ?_
          rintro _ ⟨u2, rfl⟩
          have hownu2 := owns_below hown8 u2.same
          have t0 := (hownu2.cellAt (m * 2 + 1) (by omega)).trans z1
          have tf := hownu2.frozenAt
          clear q1 q2 qn MN
          go_wp2
          have b9 : Below (w.heap.size + 1) w8 (u2.it.setCell ⟨g, m * 2 + 1, none⟩ (.int .i64 n2)) := (u2.same.mono (by omega)).setCell (p := ⟨g, m * 2 + 1, none⟩) hg1 _
          have hown9 := owns_put hownu2 (j := m * 2 + 1) (by omega) (.int .i64 n2)
          have z3 : (((spanCells (backL q s fr b l l.length J)).set (m * 2) (.int .i64 n1)).set (m * 2 + 1) (.int .i64 n2))[m * 2]? = some (.int .i64 n1) := by
            rw [List.getElem?_set_ne (by omega)]; exact z0
          have z4 : (((spanCells (backL q s fr b l l.length J)).set (m * 2) (.int .i64 n1)).set (m * 2 + 1) (.int .i64 n2))[m * 2 + 1]? = some (.int .i64 n2) := List.getElem?_set_self (by rw [List.length_set]; omega)
          clear t0 tf hownu2 x1 y1 p0 p1
          generalize u2.it.setCell ⟨g, m * 2 + 1, none⟩ (.int .i64 n2) = w9 at hown9 b9 ⊢
          have hB9 := hB8.keep b9
          have x0 := (hown9.cellAt (m * 2) (by omega)).trans z3
          have x1 := (hown9.cellAt (m * 2 + 1) (by omega)).trans z4
          have hgr9 : g < w9.heap.size := (hown9.lt g rfl).2
          have RW : Hid (w9.ownsRow (w.heap.size + 1) 38 2 (.slice (some ⟨g, 0, none⟩) (l.length + 1) ocap) (l.length + 1) (spanCells (backL q s fr b l l.length (l.length - m)))) := by
            show World.ownsRow _ _ _ _ _ _ _
            rw [e3, backL_succ q s fr b l l.length J hJ, e2, BS3.out, spanCells_set]
            exact hown9
          have qn := Cls.any w9
          have q1 := Cls.cell hgr9
          clear z0 z1 z2 z3 z4 hown9 hown8 hown hlen
          refine wp_region_cls (by kernel_rfl) (by kernel_rfl) ?_
          repeat (go_big_quiet_step (fail))
          refine wpQuiet_nil ?_
          rintro _ ⟨u3, rfl⟩
          clear q1 qn
          go_wp2
          go_roundw
          case rel => exact ⟨m, by omega, by go_num, hB9.below u3.same, owns_below RW.out u3.same⟩
          case measure => simp [intOf]
end Go.Proofs.Ytfjlbgegjjdflaa

namespace Go.Proofs.Ytfjlbgegjjdflaa
open Go.RowKit

theorem RdAt.alloc {w : World} {B : Nat} {R : Rdr} {p : Nat} (h : RdAt w B R p) (ob : Obj) : RdAt (w.alloc ob) B R p :=
  h.below (k := w.heap.size) ((Below.refl _ _).alloc (Nat.le_refl _) ob) (lt_of_block h.blk)

def lessV (a b : Int) : Int := if a < b then 0 else wrap64 (a - b)
theorem less_any (a b : Int) (w : World) : Calls Try.prog 75 #[.int .i64 a, .int .i64 b] w fun e w' => e = .returned (.int .i64 (lessV a b)) ∧ w' = w := by
  by_cases h : a < b
  · have HE : Hid (lessV a b = 0) := by show _ = _; unfold lessV; rw [if_pos h]
    go_enter Try.func75, Try.ntmps75
    go_wp2
    go_ret
    exact ⟨by rw [HE.out]; rfl, rfl⟩
  · have HE : Hid (lessV a b = wrap64 (a - b)) := by show _ = _; unfold lessV; rw [if_neg h]
    go_enter Try.func75, Try.ntmps75
    go_wp2
    go_ret
    exact ⟨by rw [HE.out]; rfl, rfl⟩

/-- The reader, p bytes on, in a world in which all that lay in w, but the reader, lies as it lay. -/
structure RdW (w w' : World) (B : Nat) (R : Rdr) (p : Nat) : Prop where
  lt : B < w.heap.size
  rd : RdAt w' B R p
  gr : w.grownBy w' (some B)
section
variable {w w' w'' : World} {B : Nat} {R : Rdr} {p : Nat}
theorem RdW.refl (h : RdAt w B R p) : RdW w w B R p := ⟨lt_of_block h.blk, h, grown_refl _ _⟩
theorem RdW.size (h : RdW w w' B R p) : w.heap.size ≤ w'.heap.size := h.gr.size
theorem RdW.set (h : RdW w w' B R p) {k : Nat} (hk : w.heap.size ≤ k) (j : Nat) (v : Value) : RdW w (w'.setCell ⟨k, j, none⟩ v) B R p := by
  have := h.lt
  refine ⟨h.lt, h.rd.grown (grown_set w' ⟨k, j, none⟩ v) (by simp; omega) (fun i e => by cases e; show B ≤ k; omega), ⟨h.gr.os, h.gr.tape, h.gr.output, by simpa [World.setCell] using h.gr.size, fun i hi hne => ?_⟩⟩
  exact (heap_setCell_other w' ⟨k, j, none⟩ i v (by show i ≠ k; omega)).trans (h.gr.block i hi hne)
theorem RdW.grown (h : RdW w w' B R p) {row : Option Nat} (hg : w'.grownBy w'' row) (hr : ∀ k, row = some k → w.heap.size ≤ k) : RdW w w'' B R p := by
  have hl := h.lt
  have hs := h.gr.size
  refine ⟨h.lt, h.rd.grown hg (fun e => by have := hr _ e; omega) (fun k e => by have := hr _ e; omega), ⟨hg.os.trans h.gr.os, hg.tape.trans h.gr.tape, hg.output.trans h.gr.output, Nat.le_trans hs hg.size, fun i hi hne => ?_⟩⟩
  exact (hg.block i (by omega) (fun e => by have := hr i e.symm; omega)).trans (h.gr.block i hi hne)
theorem RdW.below (h : RdW w w' B R p) (hb : Below w'.heap.size w' w'') : RdW w w'' B R p :=
  h.grown (row := none) ⟨hb.os, hb.tape, hb.output, hb.size, fun k hk _ => hb.block k hk⟩ (fun k e => by cases e)
theorem RdW.alloc (h : RdW w w' B R p) (ob : Obj) : RdW w (w'.alloc ob) B R p := h.below ((Below.refl _ _).alloc (Nat.le_refl _) ob)
theorem RdW.drew (h : RdW w w' B R p) : RdW w w'.drew B R p := h.below (Below.refl _ _).drew
theorem RdW.more (h : RdW w w' B R p) {p' : Nat} (hr : RdAt w'' B R p') (hg : w'.grownBy w'' (some B)) : RdW w w'' B R p' := ⟨h.lt, hr, grown_over2 h.gr hg⟩
theorem RdW.keep (_h : RdW w w' B R p) {w0 : World} {b : Nat} {ob : Obj} (hb : w'.heap[b]? = some ob) (hne : b ≠ B) (hg : w'.grownBy w0 (some B)) : w0.heap[b]? = some ob :=
  (hg.block b (lt_of_block hb) (fun e => hne (by cases e; rfl))).trans hb
end

set_option maxRecDepth 20000 in
set_option maxHeartbeats 1000000 in
theorem kind_draw (B : Nat) (R : Rdr) (p : Nat) (w : World) (h : RdAt w B R p) (hp : p ≤ 999999000) :
    Calls Try.prog 74 #[.pointer (some ⟨B, 0, none⟩)] w fun e w' => ∃ q s, e = .returned (.agg #[.int .i64 q, .int .i64 s]) ∧ RdW w w' B R (p + 3) := by
  have hB := lt_of_block h.blk
  have R0 := (RdW.refl h).alloc (.cells #[.int .i64 0, .int .i64 0] 24)
  go_enter Try.func74, Try.ntmps74
  go_wp2_with fail
  refine (pick_any B R p 3 _ R0.rd (by omega)).mono ?_
  rintro e w1 ⟨rfl, r1, g1, s1⟩
  have R1 := R0.more r1 g1
  have z1 : w1.heap.size = w.heap.size + 1 := by rw [s1]; simp
  have b1 := R0.keep (heap_alloc_new w (.cells #[.int .i64 0, .int .i64 0] 24)) (by omega) g1
  clear g1 s1 r1 R0
  generalize pickV R p 3 = n1
  go_wp2
  generalize wrap64 (1 + n1) = x
  have R2 := R1.alloc (.cells #[.int .i64 x, .int .i64 0] 24)
  have bk : (w1.alloc (.cells #[.int .i64 x, .int .i64 0] 24)).heap[w.heap.size + 1]? = some (.cells #[.int .i64 x, .int .i64 0] 24 (0, 0)) := by rw [← z1]; exact heap_alloc_new w1 _
  have bb := (Below.heap_alloc w1 (.cells #[.int .i64 x, .int .i64 0] 24) _ (by omega)).trans b1
  clear b1 z1 R1
  generalize (w1.alloc (.cells #[.int .i64 x, .int .i64 0] 24)) = W at *
  obtain ⟨k0, k1, kf⟩ := blk2 bk
  have q0 : ∀ u : ClsR W B, u.it.cell? ⟨w.heap.size + 1, 0, none⟩ = some (.int .i64 x) := fun u => (ClsR.cell (lt_of_block bk) (by omega) u 0).trans k0
  have qn := ClsR.any W B
  refine region_picks 3 6 _ _ R2.rd (by kernel_rfl) (by kernel_rfl) (by decide) (by decide) rfl rfl rfl (by kernel_rfl) ?_
  refine pc_quiet 3 rfl (by omega) ?_
  simp only [List.take_succ_cons, List.take_zero]
  repeat (go_big_quiet_step (fail))
  refine wpQuiet_nil ?_
  simp only [List.drop_succ_cons, List.drop_zero]
  refine pc_pick (by omega) rfl 4 (fun W' => by go_simp) ?_
  generalize pickV R (p + 1) 4 = n2
  simp only [Act.put, List.setIfInBounds_toArray, List.set_cons_succ, List.set_cons_zero]
  refine pc_quiet 2 rfl (by omega) ?_
  simp only [List.take_succ_cons, List.take_zero]
  repeat (go_big_quiet_step (fail))
  refine wpQuiet_nil ?_
  refine wpMoves_nil ?_
  intro w2 g2 s2 r3
  refine any_end1 (N := 6) _ rfl (by kernel_rfl) (by kernel_rfl) rfl rfl ?_
  have R3 := R2.more r3 g2
  have bk2 := R2.keep bk (by omega) g2
  have bb2 := R2.keep bb (by omega) g2
  clear q0 qn k0 k1 kf bk bb R2 g2 s2 r3
  generalize wrap64 (x + n2) = y
  obtain ⟨k0, k1, kf⟩ := blk2 bk2
  unfold Oper.wp
  go_simp
  have R4 := R3.set (show w.heap.size ≤ w.heap.size + 1 by omega) 1 (.int .i64 y)
  have bk3 := blk2_set1 bk2 (.int .i64 y)
  have bb3 := (heap_setCell_other w2 ⟨w.heap.size + 1, 1, none⟩ w.heap.size (.int .i64 y) (by simp)).trans bb2
  generalize w2.setCell ⟨w.heap.size + 1, 1, none⟩ (.int .i64 y) = w3 at *
  clear k0 k1 kf bk2 bb2 R3
  go_wp2_with fail
  refine (pick_any B R (p + 2) 16 _ R4.rd (by omega)).mono ?_
  rintro e w4 ⟨rfl, r5, g5, s5⟩
  have R5 := R4.more r5 g5
  have bk5 := R4.keep bk3 (by omega) g5
  have bb5 := R4.keep bb3 (by omega) g5
  clear bk3 bb3 R4 g5 s5 r5
  generalize pickV R (p + 2) 16 = n3
  obtain ⟨k0, k1, kf⟩ := blk2 bk5
  obtain ⟨m0, m1, mf⟩ := blk2 bb5
  by_cases h0 : n3 = 0
  · subst h0
    go_wp2
    refine bodyPost_ret (v := .agg #[.int .i64 x, .int .i64 50]) (by simp [results, Try.results74, go_sem, *]) rfl ⟨x, 50, rfl, ?_⟩
    exact ((R5.set (by omega) 1 _).set (Nat.le_refl _) 0 _).set (Nat.le_refl _) 1 _
  · have h1 : (n3 == 0) = false := beq_eq_false_iff_ne.2 h0
    go_wp2
    refine bodyPost_ret (v := .agg #[.int .i64 x, .int .i64 y]) (by simp [results, Try.results74, go_sem, *]) rfl ⟨x, y, rfl, ?_⟩
    exact (R5.set (Nat.le_refl _) 0 _).set (Nat.le_refl _) 1 _

set_option maxRecDepth 20000 in
set_option maxHeartbeats 1000000 in
theorem step_draw (B : Nat) (R : Rdr) (p : Nat) (x y : Int) (w : World) (h : RdAt w B R p) (hp : p ≤ 999999000) :
    Calls Try.prog 76 #[.pointer (some ⟨B, 0, none⟩), .int .i64 x, .int .i64 y] w fun e w' => ∃ c d p', e = .returned (.tuple #[.int .i64 c, .int .i64 d]) ∧ p' ≤ p + 40 ∧ RdW w w' B R p' := by
  have hB := lt_of_block h.blk
  go_enter Try.func76, Try.ntmps76
  go_wp2
  go_loopw [8] (fun u wr => ∃ k p' : Nat, k ≤ 20 ∧ u = .int .i64 k ∧ p' ≤ p + 2 * k ∧ RdW w wr B R p') (fun u _ => 20 - (intOf u).toNat)
  case atStart => exact ⟨0, p, by omega, rfl, by omega, RdW.refl h⟩
  case round =>
    obtain ⟨k, p', hk, rfl, hp', R1⟩ := hrel
    by_cases hlt : k < 20
    · have k0 : (0 : Int) ≤ (k : Int) := by omega
      have k1 : (k : Int) < 20 := by omega
      go_wp2_with fail
      refine (pick_any B R p' 3 _ R1.rd (by omega)).mono ?_
      rintro e w2 ⟨rfl, r2, g2, s2⟩
      have R2 := R1.more r2 g2
      clear r2 g2 s2
      generalize pickV R p' 3 = n1
      go_wp2_with fail
      generalize wrap64 (wrap64 (x + n1) - 1) = c
      refine (pick_any B R (p' + 1) 3 _ R2.rd (by omega)).mono ?_
      rintro e w3 ⟨rfl, r3, g3, s3⟩
      have R3 := R2.more r3 g3
      clear r3 g3 s3 R1 R2
      generalize pickV R (p' + 1) 3 = n2
      have HR : Hid (RdW w w3 B R (p' + 2)) := R3
      by_cases e1 : c = x
      · subst e1
        have f1 : (c != c) = false := by simp
        by_cases e2 : wrap64 (wrap64 (y + n2) - 1) = y
        · have f2 : (wrap64 (wrap64 (y + n2) - 1) != y) = false := by simp [e2]
          clear e2
          go_wp2
          go_roundw
          case rel => exact ⟨k + 1, p' + 2, by omega, rfl, by omega, HR.out⟩
          case measure => simp [intOf]; omega
        · have f2 : (wrap64 (wrap64 (y + n2) - 1) != y) = true := by simp [e2]
          clear e2
          go_wp2_with fail
          refine (in_any c 0 15 _).mono ?_
          rintro e wx ⟨rfl, rfl⟩
          cases h3 : inB c 0 15 with
          | false =>
            go_wp2
            go_roundw
            case rel => exact ⟨k + 1, p' + 2, by omega, rfl, by omega, HR.out⟩
            case measure => simp [intOf]; omega
          | true =>
            go_wp2_with fail
            refine (in_any _ 0 15 _).mono ?_
            rintro e wx ⟨rfl, rfl⟩
            cases h4 : inB (wrap64 (wrap64 (y + n2) - 1)) 0 15 with
            | false =>
              go_wp2
              go_roundw
              case rel => exact ⟨k + 1, p' + 2, by omega, rfl, by omega, HR.out⟩
              case measure => simp [intOf]; omega
            | true =>
              go_wp2
              go_ret2
              exact ⟨_, _, p' + 2, rfl, by omega, HR.out⟩
      · have f1 : (c != x) = true := by simp [e1]
        go_wp2_with fail
        refine (in_any c 0 15 _).mono ?_
        rintro e wx ⟨rfl, rfl⟩
        cases h3 : inB c 0 15 with
        | false =>
          go_wp2
          go_roundw
          case rel => exact ⟨k + 1, p' + 2, by omega, rfl, by omega, HR.out⟩
          case measure => simp [intOf]; omega
        | true =>
          go_wp2_with fail
          refine (in_any _ 0 15 _).mono ?_
          rintro e wx ⟨rfl, rfl⟩
          cases h4 : inB (wrap64 (wrap64 (y + n2) - 1)) 0 15 with
          | false =>
            go_wp2
            go_roundw
            case rel => exact ⟨k + 1, p' + 2, by omega, rfl, by omega, HR.out⟩
            case measure => simp [intOf]; omega
          | true =>
            go_wp2
            go_ret2
            exact ⟨_, _, p' + 2, rfl, by omega, HR.out⟩
    · have hk20 : k = 20 := by omega
      subst hk20
      by_cases hx : 0 < x
      · go_wp2
        go_ret2
        exact ⟨_, _, p', rfl, by omega, R1⟩
      · go_wp2
        go_ret2
        exact ⟨⟨_, _, rfl⟩, p', by omega, R1⟩
end Go.Proofs.Ytfjlbgegjjdflaa

namespace Go.Proofs.Ytfjlbgegjjdflaa
open Go.RowKit

/-- Ticks that keep to the windows and the stays, from a place to another. -/
def Keeps (q s fr b : Int) (l : List Stp) (z : Nat → Int) (i j : Nat) : Prop :=
  (∀ k, i ≤ k → k ≤ j → lowB fr l k ≤ z k ∧ z k ≤ highB b l k) ∧ ∀ k, i ≤ k → k < j → q ≤ z (k + 1) - z k ∧ z (k + 1) - z k ≤ mostB s l k
def inP (t : Int) (x : Int × Int) : Prop := x.1 ≤ t ∧ t ≤ x.2

section
variable {q s fr b : Int} {l : List Stp}

theorem fwd_win (k : Nat) {t : Int} (h : inP t (fwdS q s fr b l k)) : lowB fr l k ≤ t ∧ t ≤ highB b l k := by
  cases k with
  | zero => exact h
  | succ m =>
    simp only [inP, fwdS] at h
    have h1 := mxB_le (lowB fr l (m + 1)) ((fwdS q s fr b l m).1 + q)
    have h2 := mnB_le (highB b l (m + 1)) ((fwdS q s fr b l m).2 + mostB s l m)
    omega

theorem fwd_sound {z : Nat → Int} {n : Nat} (h : Keeps q s fr b l z 0 n) : ∀ k, k ≤ n → inP (z k) (fwdS q s fr b l k)
  | 0, hk => h.1 0 (Nat.le_refl _) hk
  | k + 1, hk => by
    have ih := fwd_sound h k (by omega)
    have h1 := h.1 (k + 1) (by omega) hk
    have h2 := h.2 k (by omega) (by omega)
    have m1 := mxB_le (lowB fr l (k + 1)) ((fwdS q s fr b l k).1 + q)
    have m2 := mnB_le (highB b l (k + 1)) ((fwdS q s fr b l k).2 + mostB s l k)
    simp only [inP, fwdS] at *
    omega

theorem fwd_complete (hm : ∀ k, q ≤ mostB s l k) : ∀ (k : Nat) (t : Int), fwdTo q s fr b l (k + 1) = true → inP t (fwdS q s fr b l k) → ∃ z, Keeps q s fr b l z 0 k ∧ z k = t
  | 0, t, _, ht => ⟨fun _ => t, ⟨fun k _ hk => by obtain rfl : k = 0 := by omega
                                                  exact ht, fun k _ hk => by omega⟩, rfl⟩
  | k + 1, t, hf, ht => by
    have hf' : fwdTo q s fr b l (k + 1) = true := by
      simp only [fwdTo, List.all_eq_true, List.mem_range] at hf ⊢
      exact fun i hi => hf i (by omega)
    have h0 := fwdTo_at hf (show k < k + 1 + 1 by omega)
    have hw := fwd_win (k + 1) ht
    have hq := hm k
    have m1 := mxB_le (lowB fr l (k + 1)) ((fwdS q s fr b l k).1 + q)
    have m2 := mnB_le (highB b l (k + 1)) ((fwdS q s fr b l k).2 + mostB s l k)
    simp only [inP, fwdS] at ht
    obtain ⟨u, hu1, hu2⟩ : ∃ u, inP u (fwdS q s fr b l k) ∧ q ≤ t - u ∧ t - u ≤ mostB s l k := by
      by_cases c : (fwdS q s fr b l k).1 ≤ t - mostB s l k
      · exact ⟨t - mostB s l k, ⟨c, by omega⟩, by omega⟩
      · exact ⟨(fwdS q s fr b l k).1, ⟨Int.le_refl _, h0⟩, by omega⟩
    obtain ⟨z, hz, hzk⟩ := fwd_complete hm k u hf' hu1
    refine ⟨fun i => if i ≤ k then z i else t, ⟨fun i _ hi => ?_, fun i _ hi => ?_⟩, if_neg (by omega)⟩
    · by_cases c : i ≤ k
      · simp only [c, if_true]; exact hz.1 i (by omega) c
      · simp only [c, if_false]
        obtain rfl : i = k + 1 := by omega
        exact hw
    · by_cases c : i + 1 ≤ k
      · have c' : i ≤ k := by omega
        simp only [c, c', if_true]; exact hz.2 i (by omega) (by omega)
      · obtain rfl : i = k := by omega
        simp only [Nat.le_refl, if_true, show ¬ i + 1 ≤ i by omega, if_false]
        rw [hzk]; exact hu2

theorem bwd_sub (n : Nat) (j : Nat) {t : Int} (h : inP t (bwdS q s fr b l n j)) : inP t (fwdS q s fr b l (n - j)) := by
  cases j with
  | zero => exact h
  | succ m =>
    simp only [inP, bwdS] at *
    have h1 := mxB_le (fwdS q s fr b l (n - (m + 1))).1 ((bwdS q s fr b l n m).1 - mostB s l (n - (m + 1)))
    have h2 := mnB_le (fwdS q s fr b l (n - (m + 1))).2 ((bwdS q s fr b l n m).2 - q)
    omega

theorem bwd_sound {z : Nat → Int} {n : Nat} (h : Keeps q s fr b l z 0 n) : ∀ j, j ≤ n → inP (z (n - j)) (bwdS q s fr b l n j)
  | 0, _ => fwd_sound h n (Nat.le_refl _)
  | j + 1, hj => by
    have ih := bwd_sound h j (by omega)
    obtain ⟨k, hk1, hk2⟩ : ∃ k, n - (j + 1) = k ∧ n - j = k + 1 := ⟨n - (j + 1), rfl, by omega⟩
    rw [hk2] at ih
    have h0 := fwd_sound h k (by omega)
    have h2 := h.2 k (by omega) (by omega)
    simp only [inP, bwdS] at *
    rw [hk1]
    have h1 := mxB_le (fwdS q s fr b l k).1 ((bwdS q s fr b l n j).1 - mostB s l k)
    have h3 := mnB_le (fwdS q s fr b l k).2 ((bwdS q s fr b l n j).2 - q)
    omega

theorem bwd_some (hm : ∀ k, q ≤ mostB s l k) {n : Nat} (hf : fwdTo q s fr b l (n + 1) = true) : ∀ j, j ≤ n →
    (bwdS q s fr b l n j).1 ≤ (bwdS q s fr b l n j).2 ∧ (fwdS q s fr b l (n - j)).1 ≤ (bwdS q s fr b l n j).1 ∧ (bwdS q s fr b l n j).2 ≤ (fwdS q s fr b l (n - j)).2
  | 0, _ => by
    have := fwdTo_at hf (show n < n + 1 by omega)
    exact ⟨this, Int.le_refl _, Int.le_refl _⟩
  | j + 1, hj => by
    obtain ⟨h1, h2, h3⟩ := bwd_some hm hf j (by omega)
    obtain ⟨k, hk⟩ : ∃ k, n - (j + 1) = k ∧ n - j = k + 1 := ⟨n - (j + 1), rfl, by omega⟩
    rw [hk.2] at h2 h3
    have h0 := fwdTo_at hf (show k < n + 1 by omega)
    have hm := hm k
    simp only [fwdS] at h2 h3
    have m1 := mxB_le (lowB fr l (k + 1)) ((fwdS q s fr b l k).1 + q)
    have m2 := mnB_le (highB b l (k + 1)) ((fwdS q s fr b l k).2 + mostB s l k)
    simp only [bwdS]
    rw [hk.1]
    have m3 := mxB_le (fwdS q s fr b l k).1 ((bwdS q s fr b l n j).1 - mostB s l k)
    have m4 := mnB_le (fwdS q s fr b l k).2 ((bwdS q s fr b l n j).2 - q)
    refine ⟨?_, ?_, ?_⟩ <;> omega

theorem bwd_complete (hm : ∀ k, q ≤ mostB s l k) {n : Nat} (hf : fwdTo q s fr b l (n + 1) = true) : ∀ (j : Nat) (t : Int), j ≤ n → inP t (bwdS q s fr b l n j) → ∃ z, Keeps q s fr b l z (n - j) n ∧ z (n - j) = t
  | 0, t, _, ht => ⟨fun _ => t, ⟨fun k h1 h2 => by obtain rfl : k = n := by omega
                                                   exact fwd_win k (bwd_sub k 0 ht), fun k h1 h2 => by omega⟩, rfl⟩
  | j + 1, t, hj, ht => by
    obtain ⟨h1, _, _⟩ := bwd_some hm hf j (by omega)
    have hw := fwd_win _ (bwd_sub n (j + 1) ht)
    obtain ⟨k, hk⟩ : ∃ k, n - (j + 1) = k ∧ n - j = k + 1 := ⟨n - (j + 1), rfl, by omega⟩
    have hq := hm k
    simp only [inP, bwdS] at ht
    rw [hk.1] at ht hw
    have m3 := mxB_le (fwdS q s fr b l k).1 ((bwdS q s fr b l n j).1 - mostB s l k)
    have m4 := mnB_le (fwdS q s fr b l k).2 ((bwdS q s fr b l n j).2 - q)
    obtain ⟨u, hu1, hu2⟩ : ∃ u, inP u (bwdS q s fr b l n j) ∧ q ≤ u - t ∧ u - t ≤ mostB s l k := by
      by_cases c : (bwdS q s fr b l n j).1 ≤ t + q
      · exact ⟨t + q, ⟨c, by omega⟩, by omega⟩
      · exact ⟨(bwdS q s fr b l n j).1, ⟨Int.le_refl _, h1⟩, by omega⟩
    obtain ⟨z, hz, hzk⟩ := bwd_complete hm hf j u (by omega) hu1
    rw [hk.2] at hz hzk
    rw [hk.1]
    refine ⟨fun i => if k < i then z i else t, ⟨fun i g1 g2 => ?_, fun i g1 g2 => ?_⟩, by simp⟩
    · by_cases c : k < i
      · simp only [c, if_true]; exact hz.1 i (by omega) g2
      · simp only [c, if_false]
        obtain rfl : i = k := by omega
        exact hw
    · by_cases c : k < i
      · simp only [c, show k < i + 1 by omega, if_true]; exact hz.2 i (by omega) g2
      · obtain rfl : i = k := by omega
        simp only [Nat.lt_irrefl, if_false, show i < i + 1 by omega, if_true]
        rw [hzk]; exact hu2

/-- The span of the k-th tick, of n + 1. -/
def spanAt (q s fr b : Int) (l : List Stp) (n k : Nat) : Int × Int := bwdS q s fr b l n (n - k)

theorem fly_iff (hm : ∀ k, q ≤ mostB s l k) (n : Nat) : fwdTo q s fr b l (n + 1) = true ↔ ∃ z, Keeps q s fr b l z 0 n := by
  constructor
  · intro hf
    obtain ⟨z, hz, _⟩ := fwd_complete hm n _ hf ⟨Int.le_refl _, fwdTo_at hf (by omega)⟩
    exact ⟨z, hz⟩
  · rintro ⟨z, hz⟩
    simp only [fwdTo, List.all_eq_true, List.mem_range, someB, decide_eq_true_eq]
    intro i hi
    have := fwd_sound hz i (by omega)
    exact Int.le_trans this.1 this.2

theorem span_iff (hm : ∀ k, q ≤ mostB s l k) {n : Nat} (hf : fwdTo q s fr b l (n + 1) = true) {k : Nat} (hk : k ≤ n) (t : Int) : inP t (spanAt q s fr b l n k) ↔ ∃ z, Keeps q s fr b l z 0 n ∧ z k = t := by
  constructor
  · intro ht
    have h1 := bwd_sub n (n - k) ht
    have ek : n - (n - k) = k := by omega
    rw [ek] at h1
    have hfk : fwdTo q s fr b l (k + 1) = true := by
      simp only [fwdTo, List.all_eq_true, List.mem_range] at hf ⊢
      exact fun i hi => hf i (by omega)
    obtain ⟨x, hx, hxk⟩ := fwd_complete hm k t hfk h1
    obtain ⟨y, hy, hyk⟩ := bwd_complete hm hf (n - k) t (by omega) ht
    rw [ek] at hy hyk
    refine ⟨fun i => if i ≤ k then x i else y i, ⟨fun i _ g => ?_, fun i _ g => ?_⟩, by simp [hxk]⟩
    · by_cases c : i ≤ k
      · simp only [c, if_true]; exact hx.1 i (by omega) c
      · simp only [c, if_false]; exact hy.1 i (by omega) g
    · by_cases c : i + 1 ≤ k
      · have c' : i ≤ k := by omega
        simp only [c, c', if_true]; exact hx.2 i (by omega) (by omega)
      · by_cases c' : i ≤ k
        · obtain rfl : i = k := by omega
          simp only [c, if_false, Nat.le_refl, if_true]
          rw [hxk, ← hyk]
          exact hy.2 i (by omega) g
        · simp only [c, c', if_false]; exact hy.2 i (by omega) g
  · rintro ⟨z, hz, rfl⟩
    have := bwd_sound hz (n - k) (by omega)
    rwa [show n - (n - k) = k by omega] at this
theorem span_some (hm : ∀ k, q ≤ mostB s l k) {n : Nat} (hf : fwdTo q s fr b l (n + 1) = true) {k : Nat} : (spanAt q s fr b l n k).1 ≤ (spanAt q s fr b l n k).2 := (bwd_some hm hf (n - k) (by omega)).1
theorem span_next (hm : ∀ k, q ≤ mostB s l k) {n : Nat} (hf : fwdTo q s fr b l (n + 1) = true) {k : Nat} (hk : k < n) {t : Int} (ht : inP t (spanAt q s fr b l n k)) : ∃ u, inP u (spanAt q s fr b l n (k + 1)) ∧ q ≤ u - t ∧ u - t ≤ mostB s l k := by
  obtain ⟨z, hz, rfl⟩ := (span_iff hm hf (show k ≤ n by omega) t).1 ht
  exact ⟨z (k + 1), (span_iff hm hf (show k + 1 ≤ n by omega) _).2 ⟨z, hz, rfl⟩, hz.2 k (by omega) hk⟩
theorem span_win (hm : ∀ k, q ≤ mostB s l k) {n : Nat} (hf : fwdTo q s fr b l (n + 1) = true) {k : Nat} (hk : k ≤ n) {t : Int} (ht : inP t (spanAt q s fr b l n k)) : lowB fr l k ≤ t ∧ t ≤ highB b l k := by
  obtain ⟨z, hz, rfl⟩ := (span_iff hm hf hk t).1 ht
  exact hz.1 k (by omega) hk

/-- What is open to the k-th tick, behind a tick x. -/
def openP (q s fr b : Int) (l : List Stp) (n k : Nat) (x : Int) : Int × Int := (mxB (spanAt q s fr b l n (k + 1)).1 (x + q), mnB (spanAt q s fr b l n (k + 1)).2 (x + mostB s l k))
/-- What is open when these have begun. -/
def openA (q s fr b : Int) (l : List Stp) (n : Nat) (c : Nat → Int) : Nat → Int × Int
  | 0 => spanAt q s fr b l n 0
  | k + 1 => openP q s fr b l n k (c k)
theorem openP_in {n k : Nat} {x t : Int} : inP t (openP q s fr b l n k x) ↔ inP t (spanAt q s fr b l n (k + 1)) ∧ q ≤ t - x ∧ t - x ≤ mostB s l k := by
  have h1 := mxB_le (spanAt q s fr b l n (k + 1)).1 (x + q)
  have h2 := mnB_le (spanAt q s fr b l n (k + 1)).2 (x + mostB s l k)
  simp only [inP, openP]
  constructor
  · intro h; exact ⟨by omega, by omega⟩
  · rintro ⟨h3, h4⟩; omega
theorem openA_sub {n : Nat} {c : Nat → Int} (k : Nat) {t : Int} (h : inP t (openA q s fr b l n c k)) : inP t (spanAt q s fr b l n k) := by
  cases k with
  | zero => exact h
  | succ m => exact (openP_in.1 h).1
/-- A beginning can be flown just if each tick of it was open. -/
theorem begun_iff (hm : ∀ k, q ≤ mostB s l k) {n : Nat} (hf : fwdTo q s fr b l (n + 1) = true) (c : Nat → Int) {m : Nat} (hmn : m ≤ n) (t : Int) :
    ((∀ k, k < m → inP (c k) (openA q s fr b l n c k)) ∧ inP t (openA q s fr b l n c m)) ↔ ∃ z, Keeps q s fr b l z 0 n ∧ (∀ k, k < m → z k = c k) ∧ z m = t := by
  constructor
  · rintro ⟨h1, h2⟩
    obtain ⟨y, hy, hyk⟩ := (span_iff hm hf hmn t).1 (openA_sub m h2)
    refine ⟨fun i => if i < m then c i else y i, ⟨fun i _ g => ?_, fun i _ g => ?_⟩, fun k hk => by simp [hk], by simp [hyk]⟩
    · by_cases e : i < m
      · simp only [e, if_true]
        exact span_win hm hf (by omega) (openA_sub i (h1 i e))
      · simp only [e, if_false]; exact hy.1 i (by omega) g
    · by_cases e : i + 1 < m
      · have e' : i < m := by omega
        simp only [e, e', if_true]
        exact (openP_in.1 (h1 (i + 1) e)).2
      · by_cases e' : i < m
        · obtain rfl : m = i + 1 := by omega
          simp only [e, e', if_true, if_false]
          rw [hyk]
          exact (openP_in.1 h2).2
        · simp only [e, e', if_false]; exact hy.2 i (by omega) g
  · rintro ⟨z, hz, hc, rfl⟩
    have at_ : ∀ k, k ≤ m → inP (z k) (openA q s fr b l n c k) := by
      intro k hk
      have hk0 := (span_iff hm hf (show k ≤ n by omega) (z k)).2 ⟨z, hz, rfl⟩
      cases k with
      | zero => exact hk0
      | succ j =>
        refine openP_in.2 ⟨hk0, ?_⟩
        rw [← hc j (by omega)]
        exact hz.2 j (by omega) (by omega)
    exact ⟨fun k hk => by rw [← hc k hk]; exact at_ k (by omega), at_ m (Nat.le_refl _)⟩
theorem open_some (hm : ∀ k, q ≤ mostB s l k) {n : Nat} (hf : fwdTo q s fr b l (n + 1) = true) (c : Nat → Int) {m : Nat} (hmn : m ≤ n) (h : ∀ k, k < m → inP (c k) (openA q s fr b l n c k)) : (openA q s fr b l n c m).1 ≤ (openA q s fr b l n c m).2 := by
  cases m with
  | zero => exact span_some hm hf
  | succ k =>
    obtain ⟨u, hu1, hu2⟩ := span_next hm hf (show k < n by omega) (openA_sub k (h k (by omega)))
    have := openP_in.2 ⟨hu1, hu2⟩
    exact Int.le_trans this.1 this.2
theorem same_span {x y : Int × Int} (hx : x.1 ≤ x.2) (hy : y.1 ≤ y.2) (h : ∀ t, inP t x ↔ inP t y) : x = y := by
  have h1 := (h x.1).1 ⟨Int.le_refl _, hx⟩
  have h2 := (h x.2).1 ⟨hx, Int.le_refl _⟩
  have h3 := (h y.1).2 ⟨Int.le_refl _, hy⟩
  have h4 := (h y.2).2 ⟨hy, Int.le_refl _⟩
  simp only [inP] at *
  apply Prod.ext <;> omega
end

/-- The windows l', fr', b' are the others, with the first m ticks held. -/
structure HeldAs (fr b : Int) (l : List Stp) (fr' b' : Int) (l' : List Stp) (s : Int) (c : Nat → Int) (m : Nat) : Prop where
  len : l'.length = l.length
  most : ∀ k, mostB s l' k = mostB s l k
  low : ∀ k, lowB fr' l' k = if k < m then mxB (lowB fr l k) (c k) else lowB fr l k
  high : ∀ k, highB b' l' k = if k < m then mnB (highB b l k) (c k) else highB b l k

theorem held_keeps {q s fr b fr' b' : Int} {l l' : List Stp} {c : Nat → Int} {m n : Nat} (hh : HeldAs fr b l fr' b' l' s c m) (hmn : m ≤ n + 1) (z : Nat → Int) :
    Keeps q s fr' b' l' z 0 n ↔ Keeps q s fr b l z 0 n ∧ ∀ k, k < m → z k = c k := by
  constructor
  · rintro ⟨h1, h2⟩
    have w : ∀ k, k ≤ n → (lowB fr l k ≤ z k ∧ z k ≤ highB b l k) ∧ (k < m → z k = c k) := by
      intro k hk
      have := h1 k (by omega) hk
      rw [hh.low, hh.high] at this
      by_cases e : k < m
      · rw [if_pos e, if_pos e] at this
        have m1 := mxB_le (lowB fr l k) (c k)
        have m2 := mnB_le (highB b l k) (c k)
        exact ⟨by omega, fun _ => by omega⟩
      · rw [if_neg e, if_neg e] at this
        exact ⟨this, fun h => absurd h e⟩
    refine ⟨⟨fun k _ hk => (w k hk).1, fun k g1 g2 => ?_⟩, fun k hk => (w k (by omega)).2 hk⟩
    have := h2 k g1 g2
    rwa [hh.most] at this
  · rintro ⟨⟨h1, h2⟩, h3⟩
    refine ⟨fun k g1 g2 => ?_, fun k g1 g2 => by rw [hh.most]; exact h2 k g1 g2⟩
    have := h1 k g1 g2
    rw [hh.low, hh.high]
    by_cases e : k < m
    · rw [if_pos e, if_pos e]
      have := h3 k e
      have m1 := mxB_le (lowB fr l k) (c k)
      have m2 := mnB_le (highB b l k) (c k)
      omega
    · rw [if_neg e, if_neg e]; exact this

/-- What the specification finds of the held windows is what is open. -/
theorem held_next {q s fr b fr' b' : Int} {l l' : List Stp} {c : Nat → Int} {m n : Nat} (hh : HeldAs fr b l fr' b' l' s c m) (hm : ∀ k, q ≤ mostB s l k) (hmn : m ≤ n) :
    (fwdTo q s fr' b' l' (n + 1) = true ↔ fwdTo q s fr b l (n + 1) = true ∧ ∀ k, k < m → inP (c k) (openA q s fr b l n c k)) ∧
    (fwdTo q s fr' b' l' (n + 1) = true → spanAt q s fr' b' l' n m = openA q s fr b l n c m) := by
  have hm' : ∀ k, q ≤ mostB s l' k := fun k => by rw [hh.most]; exact hm k
  have e1 : fwdTo q s fr' b' l' (n + 1) = true ↔ fwdTo q s fr b l (n + 1) = true ∧ ∀ k, k < m → inP (c k) (openA q s fr b l n c k) := by
    rw [fly_iff hm']
    constructor
    · rintro ⟨z, hz⟩
      obtain ⟨hz1, hz2⟩ := (held_keeps hh (by omega) z).1 hz
      have hf := (fly_iff hm n).2 ⟨z, hz1⟩
      exact ⟨hf, ((begun_iff hm hf c hmn (z m)).2 ⟨z, hz1, hz2, rfl⟩).1⟩
    · rintro ⟨hf, h⟩
      obtain ⟨z, hz1, hz2, _⟩ := (begun_iff hm hf c hmn _).1 ⟨h, ⟨Int.le_refl _, open_some hm hf c hmn h⟩⟩
      exact ⟨z, (held_keeps hh (by omega) z).2 ⟨hz1, hz2⟩⟩
  refine ⟨e1, fun hf' => ?_⟩
  obtain ⟨hf, h⟩ := e1.1 hf'
  refine same_span (span_some hm' hf') (open_some hm hf c hmn h) fun t => ?_
  rw [span_iff hm' hf' hmn]
  constructor
  · rintro ⟨z, hz, rfl⟩
    obtain ⟨hz1, hz2⟩ := (held_keeps hh (by omega) z).1 hz
    exact ((begun_iff hm hf c hmn (z m)).2 ⟨z, hz1, hz2, rfl⟩).2
  · intro ht
    obtain ⟨z, hz1, hz2, h3⟩ := (begun_iff hm hf c hmn t).1 ⟨h, ht⟩
    exact ⟨z, (held_keeps hh (by omega) z).2 ⟨hz1, hz2⟩, h3⟩
end Go.Proofs.Ytfjlbgegjjdflaa

namespace Go.Proofs.Ytfjlbgegjjdflaa
open Go.RowKit

/-- A step that was entered at a tick. -/
def Stp.hold (t : Stp) (z : Int) : Stp := { t with fr := mxB t.fr z, by_ := mnB t.by_ z }
/-- The steps, the first k of them held. -/
def heldL (l : List Stp) (zs : List Int) (k : Nat) : List Stp := (List.range l.length).map fun i => if i < k then (l.getD i .zero).hold (zs.getD i 0) else l.getD i .zero
theorem heldL_length (l : List Stp) (zs : List Int) (k : Nat) : (heldL l zs k).length = l.length := by simp [heldL]
theorem heldL_get (l : List Stp) (zs : List Int) (k i : Nat) (h : i < l.length) : (heldL l zs k)[i]? = some (if i < k then (l.getD i .zero).hold (zs.getD i 0) else l.getD i .zero) := by simp [heldL, h]
theorem getD_some {l : List Stp} {i : Nat} (h : i < l.length) : l[i]? = some (l.getD i .zero) := by
  rw [List.getD_eq_getElem?_getD, List.getElem?_eq_getElem h]; rfl
theorem getD_is {l : List Stp} {i : Nat} {t : Stp} (h : l[i]? = some t) : l.getD i .zero = t := by rw [List.getD_eq_getElem?_getD, h]; rfl
theorem heldL_zero (l : List Stp) (zs : List Int) : heldL l zs 0 = l := by
  apply List.ext_getElem?
  intro i
  by_cases h : i < l.length
  · rw [heldL_get _ _ _ _ h, if_neg (by omega), getD_some h]
  · rw [List.getElem?_eq_none (by rw [heldL_length]; omega), List.getElem?_eq_none (by omega)]
theorem heldL_succ (l : List Stp) (zs : List Int) (k : Nat) : heldL l zs (k + 1) = (heldL l zs k).set k ((l.getD k .zero).hold (zs.getD k 0)) := by
  apply List.ext_getElem?
  intro i
  by_cases h : i < l.length
  · rw [heldL_get _ _ _ _ h]
    by_cases e : k = i
    · subst e
      rw [List.getElem?_set_self (by rw [heldL_length]; exact h), if_pos (by omega)]
    · rw [List.getElem?_set_ne e, heldL_get _ _ _ _ h]
      by_cases c : i < k
      · rw [if_pos c, if_pos (by omega)]
      · rw [if_neg c, if_neg (by omega)]
  · rw [List.getElem?_eq_none (by rw [heldL_length]; omega), List.getElem?_eq_none (by rw [List.length_set, heldL_length]; omega)]
theorem heldL_now (l : List Stp) (zs : List Int) (k : Nat) (h : k < l.length) : (heldL l zs k)[k]? = some (l.getD k .zero) := by rw [heldL_get _ _ _ _ h, if_neg (by omega)]

theorem held_as (fr b s : Int) (l : List Stp) (zs : List Int) (hz : zs.length ≤ l.length) : HeldAs fr b l fr b (heldL l zs zs.length) s (fun i => zs.getD i 0) zs.length where
  len := heldL_length _ _ _
  most k := by
    unfold mostB
    by_cases h : k < l.length
    · rw [getD_is (heldL_get l zs zs.length k h)]
      split <;> rfl
    · rw [List.getD_eq_getElem?_getD, List.getD_eq_getElem?_getD, List.getElem?_eq_none (by rw [heldL_length]; omega), List.getElem?_eq_none (by omega)]
  low k := by
    unfold lowB
    rw [heldL_length]
    by_cases h : k < l.length
    · rw [if_pos h, if_pos h, getD_is (heldL_get l zs zs.length k h)]
      split <;> rfl
    · rw [if_neg h, if_neg h, if_neg (by omega)]
  high k := by
    unfold highB
    rw [heldL_length]
    by_cases h : k < l.length
    · rw [if_pos h, if_pos h, getD_is (heldL_get l zs zs.length k h)]
      split <;> rfl
    · rw [if_neg h, if_neg h, if_neg (by omega)]

theorem held_wide {q s fr b : Int} {l : List Stp} (hp : Wide q s fr b l) (zs : List Int) (hz : zs.length ≤ l.length) : Wide q s fr b (heldL l zs zs.length) where
  kind := hp.kind
  len := by rw [heldL_length]; exact hp.len
  win k := by
    have hh := held_as fr b s l zs hz
    have h0 := hp.win k
    rw [hh.low, hh.high]
    split
    · have m1 := mxB_le (lowB fr l k) (zs.getD k 0)
      have m2 := mnB_le (highB b l k) (zs.getD k 0)
      constructor
      · omega
      · have := m2.1; omega
    · exact h0

/-- Each of the ticks was open. -/
def begunB (q s fr b : Int) (l : List Stp) (zs : List Int) : Nat → Bool
  | 0 => true
  | k + 1 => begunB q s fr b l zs k && inB (zs.getD k 0) (openA q s fr b l l.length (fun i => zs.getD i 0) k).1 (openA q s fr b l l.length (fun i => zs.getD i 0) k).2
theorem begunB_iff (q s fr b : Int) (l : List Stp) (zs : List Int) : ∀ m, begunB q s fr b l zs m = true ↔ ∀ k, k < m → inP (zs.getD k 0) (openA q s fr b l l.length (fun i => zs.getD i 0) k)
  | 0 => ⟨fun _ k hk => by omega, fun _ => rfl⟩
  | m + 1 => by
    rw [begunB, Bool.and_eq_true, begunB_iff q s fr b l zs m, inB_iff]
    constructor
    · rintro ⟨h1, h2⟩ k hk
      by_cases e : k = m
      · subst e; exact h2
      · exact h1 k (by omega)
    · intro h
      exact ⟨fun k hk => h k (by omega), h m (by omega)⟩
/-- It can be gone on with. -/
def goB (q s fr b : Int) (l : List Stp) (zs : List Int) : Bool := pathB q s fr b l && spanB q s fr b l && decide (zs.length ≤ l.length) && begunB q s fr b l zs zs.length
def goS (q s fr b : Int) (l : List Stp) (zs : List Int) : Int × Int := if goB q s fr b l zs then openA q s fr b l l.length (fun i => zs.getD i 0) zs.length else (0, 0)

/-- What the specification finds. -/
theorem held_go {q s fr b : Int} {l : List Stp} {zs : List Int} (hp : pathB q s fr b l = true) (hz : zs.length ≤ l.length) :
    spanB q s fr b (heldL l zs zs.length) = goB q s fr b l zs ∧ (goB q s fr b l zs = true → (spansL q s fr b (heldL l zs zs.length))[zs.length]? = some (goS q s fr b l zs)) := by
  have hw := Wide.of hp
  have hw' := held_wide hw zs hz
  have key := held_next (n := l.length) (held_as fr b s l zs hz) hw.quick hz
  have e1 : spanB q s fr b (heldL l zs zs.length) = goB q s fr b l zs := by
    rw [hw'.span_fwd, heldL_length]
    unfold goB
    rw [hp, hw.span_fwd, Bool.eq_iff_iff, key.1]
    simp only [Bool.true_and, Bool.and_eq_true, decide_eq_true_eq]
    rw [begunB_iff]
    exact ⟨fun ⟨h1, h2⟩ => ⟨⟨h1, hz⟩, h2⟩, fun ⟨⟨h1, _⟩, h2⟩ => ⟨h1, h2⟩⟩
  refine ⟨e1, fun hg => ?_⟩
  have hsp : spanB q s fr b (heldL l zs zs.length) = true := by rw [e1]; exact hg
  have hf : fwdTo q s fr b (heldL l zs zs.length) (l.length + 1) = true := by
    have := hw'.span_fwd
    rw [heldL_length] at this
    rw [← this]; exact hsp
  have k2 := key.2 hf
  unfold goS
  rw [if_pos hg, ← k2]
  unfold spansL spanAt
  rw [if_pos hsp, heldL_length, List.getElem?_map, List.getElem?_range (by omega)]
  rfl

/-- The row of spans when these ticks have come: what was open to each of them, what is open to the next, the spans of the rest. -/
def rowG (q s fr b : Int) (l : List Stp) (c : Nat → Int) (m : Nat) : List (Int × Int) := (List.range (l.length + 1)).map fun j => if j ≤ m then openA q s fr b l l.length c j else spanAt q s fr b l l.length j
theorem rowG_length (q s fr b : Int) (l : List Stp) (c : Nat → Int) (m : Nat) : (rowG q s fr b l c m).length = l.length + 1 := by simp [rowG]
theorem rowG_get (q s fr b : Int) (l : List Stp) (c : Nat → Int) (m j : Nat) (h : j ≤ l.length) : (rowG q s fr b l c m)[j]? = some (if j ≤ m then openA q s fr b l l.length c j else spanAt q s fr b l l.length j) := by
  simp [rowG, show j < l.length + 1 by omega]
theorem rowG_zero {q s fr b : Int} {l : List Stp} (c : Nat → Int) (h : spanB q s fr b l = true) : rowG q s fr b l c 0 = spansL q s fr b l := by
  unfold rowG spansL
  rw [if_pos h]
  apply List.map_congr_left
  intro j _
  by_cases e : j ≤ 0
  · obtain rfl : j = 0 := by omega
    rw [if_pos e]; rfl
  · rw [if_neg e]; rfl
theorem rowG_succ (q s fr b : Int) (l : List Stp) (c : Nat → Int) (m : Nat) : rowG q s fr b l c (m + 1) = (rowG q s fr b l c m).set (m + 1) (openP q s fr b l l.length m (c m)) := by
  apply List.ext_getElem?
  intro j
  by_cases h : j ≤ l.length
  · rw [rowG_get _ _ _ _ _ _ _ _ h]
    by_cases e : m + 1 = j
    · subst e
      rw [List.getElem?_set_self (by rw [rowG_length]; omega), if_pos (Nat.le_refl _)]; rfl
    · rw [List.getElem?_set_ne e, rowG_get _ _ _ _ _ _ _ _ h]
      by_cases e' : j ≤ m
      · rw [if_pos e', if_pos (by omega)]
      · rw [if_neg e', if_neg (by omega)]
  · rw [List.getElem?_eq_none (by rw [rowG_length]; omega), List.getElem?_eq_none (by rw [List.length_set, rowG_length]; omega)]
/-- Only the ticks that have come count. -/
theorem rowG_congr {q s fr b : Int} {l : List Stp} {c c' : Nat → Int} {m : Nat} (h : ∀ i, i < m → c i = c' i) : rowG q s fr b l c m = rowG q s fr b l c' m := by
  unfold rowG
  apply List.map_congr_left
  intro j _
  split
  · cases j with
    | zero => rfl
    | succ i => simp only [openA]; rw [h i (by omega)]
  · rfl
end Go.Proofs.Ytfjlbgegjjdflaa

namespace Go.Proofs.Ytfjlbgegjjdflaa
open Go.RowKit

theorem step_info : (Try.prog.info? 65).map (fun i => (i.zero, i.size, i.bytes)) = some (some (.agg #[.int .i64 0, .int .i64 0, .int .i64 0, .int .i64 0, .int .i64 0, .int .i64 0, .bool false]), 7, 56) := by kernel_rfl

theorem step_size7 : (Try.prog.info? 65).map (·.size) = some 7 := by kernel_rfl
theorem step_size (s : Stp) : (Try.prog.info? 65).map (·.size) = some (Array.size #[Value.int .i64 s.x, .int .i64 s.y, .int .i64 s.lo, .int .i64 s.hi, .int .i64 s.fr, .int .i64 s.by_, .bool s.ho]) := step_size7
/-- A step stored whole. -/
theorem store_step {ops : Array Oper} {rest : List Oper} {op : Oper} {a : Act} {w : World} {Q : Exit → Act → World → Prop} (hgd : op.guard = none) (x y : Operand) (ho : op.op = .store 65 x y)
    (b o : Nat) (s : Stp) (hx : a.eval x = .pointer (some ⟨b, o, none⟩)) (hy : a.eval y = .agg #[.int .i64 s.x, .int .i64 s.y, .int .i64 s.lo, .int .i64 s.hi, .int .i64 s.fr, .int .i64 s.by_, .bool s.ho])
    (ht : w.there b o 7) (h : wpList Try.prog ops Q rest (a.put op.dst undef) (w.setCells b o s.cells)) : wpList Try.prog ops Q (op :: rest) a w :=
  wpList_store_mid hgd 65 x y ho b o _ hx hy ht (step_size s) s.one h
end Go.Proofs.Ytfjlbgegjjdflaa
