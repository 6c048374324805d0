/- A region that draws its order, whose operations only read but for the last one, which waits for all others: one walk of the lexical order serves every order; the last operation is carried out in whatever world of the class is come to. -/
import Derived.Test.YtijcdikekgmfoaaGreatDoorCls
import Derived.Deep.Quiet
namespace Go.Proofs.YtijcdikekgmfoaaGreatDoor
open Go.RowKit

section
variable {P : Program} {ops : Array Oper} {md : Region.Mode} {C : World → Prop} {last : Nat} {Q : Exit → Act → World → Prop}

/-- Whatever order is picked from here on: all operations but the last one are quiet; the last one comes up when nothing else is left. -/
def anyL (P : Program) (md : Region.Mode) (ops : Array Oper) (C : World → Prop) (last : Nat) (Q : Exit → Act → World → Prop) : Nat → Array Bool → Act → Prop
  | 0, _, _ => False
  | fuel + 1, listed, a => Region.ready md ops listed ≠ [] ∧ ∀ i ∈ Region.ready md ops listed,
      (i = last → Region.ready md ops (listed.setIfInBounds last true) = [] ∧ ∀ w, C w → wpOp P ops Q last (fun a' w' => Q .normal a' w') a w) ∧
      (i ≠ last → qOp P ops C i (anyL P md ops C last Q fuel (listed.setIfInBounds i true)) a)

theorem any_done {listed : Array Bool} (h : Region.ready md ops listed = []) {a : Act} {w : World} (hq : Q .normal a w) : ∀ fuel, wpAny P md ops Q fuel listed a w
  | 0 => ⟨h, hq⟩
  | _ + 1 => ⟨fun _ => hq, fun i hi => by rw [h] at hi; cases hi⟩

theorem any_of_L : ∀ (fuel : Nat) (listed : Array Bool) (a : Act) (w : World), C w → anyL P md ops C last Q fuel listed a → wpAny P md ops Q fuel listed a w
  | 0, _, _, _, _, h => h.elim
  | fuel + 1, listed, a, w, hw, h => ⟨fun e => absurd e h.1, fun i hi => by
      by_cases e : i = last
      · subst e
        obtain ⟨h1, h2⟩ := (h.2 i hi).1 rfl
        exact wpOp_mono (fun a' w' hq => any_done h1 hq fuel) (h2 w hw)
      · exact wpOp_of_qOp hw (fun a' w' hw' hk => any_of_L fuel _ a' w' hw' hk) ((h.2 i hi).2 e)⟩

/-- An operation that is quiet, may come up now, and is apart from what does not wait for it, may be taken first. -/
theorem anyL_take {i x : Nat} {oi : Oper} {v : Value} (hi : ops[i]? = some oi) (hsel : ∀ (j : Nat) (o : Oper) cs b, ops[j]? = some o → o.op ≠ .select cs b)
    (hx : x = i ∨ ∃ ox, ops[x]? = some ox ∧ ∃ e ∈ ox.after, Region.binds md e = true ∧ e.on = i)
    (hwait : ∀ oL, ops[last]? = some oL → ∃ e ∈ oL.after, Region.binds md e = true ∧ e.on = x) :
    ∀ (fuel : Nat) (listed : Array Bool) (a : Act), listed.getD x true = false →
      (∀ j oj, ops[j]? = some oj → j ≠ i → listed.getD j true = false → (∀ e ∈ oj.after, Region.binds md e = true → e.on ≠ i) → oi.apart ops oj = true) →
      i ∈ Region.ready md ops listed → YieldsIn P ops C oi v a →
      anyL P md ops C last Q fuel (listed.setIfInBounds i true) (a.put oi.dst v) → anyL P md ops C last Q (fuel + 1) listed a := by
  intro fuel
  induction fuel with
  | zero => intro _ _ _ _ _ _ H; exact H.elim
  | succ fuel ih =>
    intro listed a hxu hfree hr hy H
    have hun : listed.getD i true = false := (mem_ready.1 hr).1
    have clash : listed.getD i false = true → False := fun h1 => by
      rcases Nat.lt_or_ge i listed.size with h' | h'
      · simp [h'] at hun h1; rw [hun] at h1; cases h1
      · simp [Array.getElem?_eq_none h'] at h1
    have clashx : listed.getD x false = true → False := fun h1 => by
      rcases Nat.lt_or_ge x listed.size with h' | h'
      · simp [h'] at hxu h1; rw [hxu] at h1; cases h1
      · simp [Array.getElem?_eq_none h'] at h1
    refine ⟨fun e => (by rw [e] at hr; cases hr), fun j hj => ?_⟩
    obtain ⟨hjun, oj, hoj, hall⟩ := mem_ready.1 hj
    have hjl : j ≠ last := fun e => by
      subst e
      obtain ⟨y, hy', hb, ho⟩ := hwait oj hoj
      exact clashx (by have := hall y hy' hb; rwa [ho] at this)
    refine ⟨fun e => absurd e hjl, fun _ => ?_⟩
    by_cases hji : j = i
    · subst hji
      exact hy.qOp hi H
    · have hnot : ∀ e ∈ oj.after, Region.binds md e = true → e.on ≠ i := fun e he hb heq => clash (by have := hall e he hb; rwa [heq] at this)
      have h1 := (H.2 j (ready_mono hj hji)).2 hjl
      have h2 := qOp_put hoj (hfree j oj hoj hji hjun hnot) (fun cs b => hsel i oi cs b hi) (fun cs b => hsel j oj cs b hoj) hy h1
      have hjx : j ≠ x := fun e => by
        rcases hx with rfl | ⟨ox, hox, y, hy', hb, ho⟩
        · exact hji e
        · subst e
          rw [hoj] at hox
          cases hox
          exact hnot y hy' hb ho
      refine qOp_mono (fun a' h3 => ih (listed.setIfInBounds j true) a' (by rw [getD_set_ne true hjx]; exact hxu) (fun k ok hk hki hku hkn => hfree k ok hk hki ?_ hkn) (ready_mono hr (Ne.symm hji)) h3.1 ?_) h2
      · by_cases hjk : j = k
        · subst hjk; exact hjun
        · rw [getD_set_ne true hjk] at hku; exact hku
      · rw [Array.setIfInBounds_comm _ _ hji]
        exact h3.2

/-- While the k-th operation is not done, the last one cannot come up: it waits for it, or for one that is not done and waits for it. -/
def waitsAt (md : Region.Mode) (ops : Array Oper) (last k : Nat) (listed : Array Bool) : Option Nat :=
  (List.range last).find? fun x => !(listed.getD x true) && (x == k || (match ops[x]? with | none => false | some ox => ox.after.toList.any fun e => Region.binds md e && e.on == k)) &&
    (match ops[last]? with | none => true | some oL => oL.after.toList.any fun e => Region.binds md e && e.on == x)
/-- The Bool over a region: its lexical order may be walked, and the last operation comes up when nothing else is left. -/
def lexL (md : Region.Mode) (ops : Array Oper) (last : Nat) : Nat → Nat → Array Bool → Bool
  | 0, k, listed => Region.ready md ops listed == [k] && (Region.ready md ops (listed.setIfInBounds k true)).isEmpty
  | fuel + 1, k, listed => (Region.ready md ops listed).contains k && Region.free md ops listed k && (waitsAt md ops last k listed).isSome && lexL md ops last fuel (k + 1) (listed.setIfInBounds k true)

theorem anyL_lex (hs : Region.noSelect ops = true) : ∀ (l : List Oper) (k : Nat) (listed : Array Bool) (a : Act), (∀ j, j < l.length → l[j]? = ops[k + j]?) → last = k + l.length →
    lexL md ops last l.length k listed = true → wpQuiet P ops C (fun a' => ∀ w, C w → wpOp P ops Q last (fun a'' w'' => Q .normal a'' w'') a' w) l a → anyL P md ops C last Q (l.length + 1) listed a
  | [], k, listed, a, _, hk, hB, h => by
    simp only [List.length_nil, Nat.add_zero] at hk
    subst hk
    simp only [List.length_nil, lexL, Bool.and_eq_true, beq_iff_eq, List.isEmpty_iff] at hB
    refine ⟨by rw [hB.1]; simp, fun i hi => ⟨fun e => ⟨hB.2, h⟩, fun e => ?_⟩⟩
    rw [hB.1] at hi
    simp at hi
    exact absurd hi e
  | o :: l, k, listed, a, hl, hk, hB, h => by
    have h0 : ops[k]? = some o := by simpa using (hl 0 (by simp)).symm
    simp only [List.length_cons, lexL, Bool.and_eq_true] at hB
    obtain ⟨⟨⟨hr, hf⟩, hwt⟩, hB'⟩ := hB
    obtain ⟨x, hxw⟩ := Option.isSome_iff_exists.1 hwt
    have hxp := List.find?_some hxw
    simp only [Bool.and_eq_true, Bool.not_eq_true'] at hxp
    obtain ⟨⟨hx1, hx2⟩, hx3⟩ := hxp
    have hst : qOp P ops C k (wpQuiet P ops C (fun a' => ∀ w, C w → wpOp P ops Q last (fun a'' w'' => Q .normal a'' w'') a' w) l) a := by unfold qOp; simp only [h0]; exact h
    obtain ⟨v, hy, hK⟩ := yieldsIn_of_qOp h0 hst
    have hkl : k < last := by rw [hk]; simp
    refine anyL_take (x := x) h0 (Region.noSelect_spec hs) ?_ (fun oL hoL => ?_) (l.length + 1) listed a hx1 (Region.free_spec h0 hf) (by simpa using hr) hy
      (anyL_lex hs l (k + 1) _ _ (fun j hj => by have := hl (j + 1) (by simp; omega); simpa [Nat.add_assoc, Nat.add_comm 1 j] using this) (by rw [hk]; simp; omega) hB' hK)
    · simp only [Bool.or_eq_true, beq_iff_eq] at hx2
      rcases hx2 with h1 | h1
      · exact Or.inl h1
      · right
        cases hox : ops[x]? with
        | none => rw [hox] at h1; cases h1
        | some ox =>
          rw [hox] at h1
          simp only [List.any_eq_true, Bool.and_eq_true, beq_iff_eq] at h1
          obtain ⟨e, he, h2, h3⟩ := h1
          exact ⟨ox, rfl, e, by simpa using he, h2, h3⟩
    · rw [hoL] at hx3
      simp only [List.any_eq_true, Bool.and_eq_true, beq_iff_eq] at hx3
      obtain ⟨e, he, h2, h3⟩ := hx3
      exact ⟨e, by simpa using he, h2, h3⟩

/-- All but the last. -/
def initL : List Oper → List Oper
  | [] => []
  | [_] => []
  | o :: o' :: l => o :: initL (o' :: l)
/-- The last alone. -/
def endL : List Oper → List Oper
  | [] => []
  | [o] => [o]
  | _ :: o' :: l => endL (o' :: l)
theorem init_end : ∀ l : List Oper, l = initL l ++ endL l
  | [] => rfl
  | [_] => rfl
  | o :: o' :: l => by
    have := init_end (o' :: l)
    simp only [initL, endL, List.cons_append]
    rw [← this]
theorem end_one : ∀ l : List Oper, l ≠ [] → ∃ o, endL l = [o]
  | [], h => absurd rfl h
  | [o], _ => ⟨o, rfl⟩
  | _ :: o' :: l, _ => end_one (o' :: l) (by simp)

theorem wp_region_last {id : Nat} {a : Act} {w : World} {l : List Oper} (hm : P.follows .mixedOrders = true) (hne : l ≠ []) (hs : Region.noSelect l.toArray = true)
    (hB : lexL .any l.toArray (l.length - 1) (l.length - 1) 0 (Array.replicate l.length false) = true)
    (h : wpQuiet P l.toArray (fun w' => ∃ u : Cls w, w' = u.it) (fun a' => ∀ w', (∃ u : Cls w, w' = u.it) → wpList P l.toArray Q (endL l) a' w') (initL l) a) : (Code.region id l.toArray true).wp P Q a w := by
  obtain ⟨o, ho⟩ := end_one l hne
  have hsp := init_end l
  rw [ho] at hsp
  have hlen : (initL l).length = l.length - 1 := by have := congrArg List.length hsp; simp at this; omega
  have hpos : l.length = (initL l).length + 1 := by have := congrArg List.length hsp; simpa using this
  have hget : ∀ j, j < (initL l).length → (initL l)[j]? = l.toArray[0 + j]? := fun j hj => by
    rw [Nat.zero_add, List.getElem?_toArray, hsp, List.getElem?_append_left (by simpa [← hsp] using hj)]
    rw [← hsp]
  have hlast : l.toArray[l.length - 1]? = some o := by
    have h1 : (initL l ++ [o])[(initL l).length]? = some o := by simp
    rw [← hsp] at h1
    rw [List.getElem?_toArray, ← hlen]
    exact h1
  refine wp_region_any hm ?_
  have key := any_of_L (P := P) (md := .any) (ops := l.toArray) (C := fun w' => ∃ u : Cls w, w' = u.it) (last := l.length - 1) (Q := Q) ((initL l).length + 1) (Array.replicate l.length false) a { w with drawn := w.drawn + 1 }
    ⟨⟨_, (Below.refl w.heap.size w).drew⟩, rfl⟩
    (anyL_lex hs (initL l) 0 _ a hget (by omega) (by rw [hlen]; exact hB) (by
      have e1 : (fun a' => ∀ w', (∃ u : Cls w, w' = u.it) → wpList P l.toArray Q (endL l) a' w') = (fun a' => ∀ w', (∃ u : Cls w, w' = u.it) → wpOp P l.toArray Q (l.length - 1) (fun a'' w'' => Q .normal a'' w'') a' w') := by
        funext a'
        rw [ho]
        simp only [wpOp, hlast, wpList]
      rw [← e1]
      exact h))
  rw [← hpos] at key
  simpa using key
end
end Go.Proofs.YtijcdikekgmfoaaGreatDoor
