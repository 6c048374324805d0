/- A region that draws its order, inside a round too: operations that only read or call, two that allocate, two stores that wait for all others. One walk of the lexical order serves every order; the two new blocks are any two. -/
import Derived.RangeFuncCalls
import Derived.Test.YtfnopcgmlfedfaaGreatDoorLast
import Derived.Test.YtfnopcgmlfedfaaGreatDoorOwnMore
namespace Go.Proofs.YtfnopcgmlfedfaaGreatDoor
open Go.RowKit

section
variable {P : Program} {ops : Array Oper} {md : Region.Mode} {Q : Exit → Act → World → Prop} {w0 : World} {A : Nat → Bool} {tl : Nat} {Z : Array Value} {T : TypeId}

/-- A class of worlds in which all lies that lay, closed under what lays new blocks alone. -/
def Clsd (w0 : World) (X : World → Prop) : Prop := (∀ w, X w → Below w0.heap.size w0 w) ∧ ∀ w w', X w → Below w.heap.size w w' → X w'
/-- In each such class the operation leaves v. -/
def YA (P : Program) (ops : Array Oper) (w0 : World) (o : Oper) (v : Value) (a : Act) : Prop := ∀ X, Clsd w0 X → YieldsIn P ops X o v a
/-- The worlds in which these blocks have been laid. -/
structure CS (w0 : World) (Z : Array Value) (T : TypeId) (σ : List (Nat × Nat)) (w : World) : Prop where
  old : Below w0.heap.size w0 w
  at_ : ∀ p ∈ σ, w0.heap.size ≤ p.2 ∧ w.heap[p.2]? = some (.cells Z T (0, 0))
theorem CS.closed (σ : List (Nat × Nat)) : Clsd w0 (CS w0 Z T σ) :=
  ⟨fun _ h => h.old, fun _ _ h hb => ⟨h.old.trans (hb.mono h.old.size), fun p hp => ⟨(h.at_ p hp).1, (hb.block _ (lt_of_block (h.at_ p hp).2)).trans (h.at_ p hp).2⟩⟩⟩
theorem CS.alloc {σ : List (Nat × Nat)} {w : World} (h : CS w0 Z T σ w) (i : Nat) : CS w0 Z T ((i, w.heap.size) :: σ) (w.alloc (.cells Z T)) where
  old := h.old.alloc h.old.size _
  at_ p hp := by
    rcases List.mem_cons.1 hp with rfl | hp
    · exact ⟨h.old.size, heap_alloc_new w _⟩
    · exact ⟨(h.at_ p hp).1, (Below.heap_alloc w _ _ (lt_of_block (h.at_ p hp).2)).trans (h.at_ p hp).2⟩

/-- Whatever order is picked from here on. -/
def anyA (P : Program) (md : Region.Mode) (ops : Array Oper) (Q : Exit → Act → World → Prop) (w0 : World) (A : Nat → Bool) (tl : Nat) (Z : Array Value) (T : TypeId) : Nat → Array Bool → List (Nat × Nat) → Act → Prop
  | 0, _, _, _ => False
  | fuel + 1, listed, σ, a => Region.ready md ops listed ≠ [] ∧ ∀ i ∈ Region.ready md ops listed,
      (i = tl → ∀ w, CS w0 Z T σ w → wpOp P ops Q i (wpAny P md ops Q fuel (listed.setIfInBounds i true)) a w) ∧
      (i ≠ tl → A i = true → ∀ o B, ops[i]? = some o → w0.heap.size ≤ B → B ∉ σ.map (·.2) → anyA P md ops Q w0 A tl Z T fuel (listed.setIfInBounds i true) ((i, B) :: σ) (a.put o.dst (.pointer (some ⟨B, 0, none⟩)))) ∧
      (i ≠ tl → A i = false → ∃ o v, ops[i]? = some o ∧ YA P ops w0 o v a ∧ anyA P md ops Q w0 A tl Z T fuel (listed.setIfInBounds i true) σ (a.put o.dst v))

theorem any_of_A (hA : ∀ i o, A i = true → ops[i]? = some o → o.guard = none ∧ ∀ ρ w, (execOp ρ o).run P w = .ok (.value (.pointer (some ⟨w.heap.size, 0, none⟩))) (w.alloc (.cells Z T))) :
    ∀ (fuel : Nat) (listed : Array Bool) (σ : List (Nat × Nat)) (a : Act) (w : World), CS w0 Z T σ w → anyA P md ops Q w0 A tl Z T fuel listed σ a → wpAny P md ops Q fuel listed a w
  | 0, _, _, _, _, _, h => h.elim
  | fuel + 1, listed, σ, a, w, hw, h => ⟨fun e => absurd e h.1, fun i hi => by
      obtain ⟨h1, h2, h3⟩ := h.2 i hi
      by_cases e : i = tl
      · exact h1 e w hw
      · cases ha : A i with
        | true =>
          obtain ⟨_, o, ho, _⟩ := mem_ready.1 hi
          obtain ⟨hg, hr⟩ := hA i o ha ho
          have hk := h2 e ha o w.heap.size ho hw.old.size (fun hm => by
            obtain ⟨p, hp, hpe⟩ := List.mem_map.1 hm
            have := lt_of_block (hw.at_ p hp).2
            omega)
          refine wpOp_step ho (fun K' hK => ?_)
          rw [if_pos (by simp [Region.wanted, hg])]
          unfold Oper.wp
          rw [hr]
          exact hK _ _ (any_of_A hA fuel _ _ _ _ (hw.alloc i) hk)
        | false =>
          obtain ⟨o, v, ho, hy, hk⟩ := h3 e ha
          exact wpOp_of_qOp (C := CS w0 Z T σ) hw (fun a' w' hw' hk' => any_of_A hA fuel _ σ a' w' hw' hk') ((hy _ (CS.closed σ)).qOp ho hk)⟩

theorem YA.put {o oj : Oper} {v u : Value} {a : Act} (h : YA P ops w0 o v a) (hs : ∀ cs b, o.op ≠ .select cs b) (hap : ∀ d, oj.dst = some d → d ∉ o.looksAt ops) : YA P ops w0 o v (a.put oj.dst u) := fun X hX =>
  (h X hX).of_same (execOp_put o hs a oj.dst u hap) (wanted_put o a oj.dst u hap)
theorem YA.unput {o oi : Oper} {v u : Value} {a : Act} (h : YA P ops w0 o v (a.put oi.dst u)) (hs : ∀ cs b, o.op ≠ .select cs b) (hap : ∀ d, oi.dst = some d → d ∉ o.looksAt ops) : YA P ops w0 o v a := fun X hX =>
  (h X hX).of_same (execOp_put o hs a oi.dst u hap).symm (wanted_put o a oi.dst u hap).symm

/-- An operation that yields its value in each class, may come up now, and is apart from what does not wait for it, may be taken first. -/
theorem anyA_take {i x : Nat} {oi : Oper} {v : Value} (hi : ops[i]? = some oi) (hia : A i = false) (hit : i ≠ tl) (hsel : ∀ (j : Nat) (o : Oper) cs b, ops[j]? = some o → o.op ≠ .select cs b)
    (hx : x = i ∨ ∃ ox, ops[x]? = some ox ∧ ∃ e ∈ ox.after, Region.binds md e = true ∧ e.on = i)
    (hwait : ∀ oL, ops[tl]? = some oL → ∃ e ∈ oL.after, Region.binds md e = true ∧ e.on = x) :
    ∀ (fuel : Nat) (listed : Array Bool) (σ : List (Nat × Nat)) (a : Act), listed.getD x true = false →
      (∀ j oj, ops[j]? = some oj → j ≠ i → listed.getD j true = false → (∀ e ∈ oj.after, Region.binds md e = true → e.on ≠ i) → oi.apart ops oj = true) →
      i ∈ Region.ready md ops listed → YA P ops w0 oi v a →
      anyA P md ops Q w0 A tl Z T fuel (listed.setIfInBounds i true) σ (a.put oi.dst v) → anyA P md ops Q w0 A tl Z T (fuel + 1) listed σ a := by
  intro fuel
  induction fuel with
  | zero => intro _ _ _ _ _ _ _ H; exact H.elim
  | succ fuel ih =>
    intro listed σ a hxu hfree hr hy H
    have hun : listed.getD i true = false := (mem_ready.1 hr).1
    have clash : listed.getD i false = true → False := fun h1 => by
      rcases Nat.lt_or_ge i listed.size with h' | h'
      · simp [h'] at hun h1; rw [hun] at h1; cases h1
      · simp [Array.getElem?_eq_none h'] at h1
    have clashx : listed.getD x false = true → False := fun h1 => by
      rcases Nat.lt_or_ge x listed.size with h' | h'
      · simp [h'] at hxu h1; rw [hxu] at h1; cases h1
      · simp [Array.getElem?_eq_none h'] at h1
    refine ⟨fun e => (by rw [e] at hr; cases hr), fun j hj => ?_⟩
    obtain ⟨hjun, oj, hoj, hall⟩ := mem_ready.1 hj
    have hjl : j ≠ tl := fun e => by
      subst e
      obtain ⟨y, hy', hb, ho⟩ := hwait oj hoj
      exact clashx (by have := hall y hy' hb; rwa [ho] at this)
    refine ⟨fun e => absurd e hjl, ?_⟩
    by_cases hji : j = i
    · subst hji
      exact ⟨fun _ ha => absurd (hia.symm.trans ha) (by simp), fun _ _ => ⟨oi, v, hi, hy, H⟩⟩
    · have hnot : ∀ e ∈ oj.after, Region.binds md e = true → e.on ≠ i := fun e he hb heq => clash (by have := hall e he hb; rwa [heq] at this)
      obtain ⟨a1, a2, a3⟩ := Oper.apart_spec (hfree j oj hoj hji hjun hnot)
      have hjx : j ≠ x := fun e => by
        rcases hx with rfl | ⟨ox, hox, y, hy', hb, ho⟩
        · exact hji e
        · subst e
          rw [hoj] at hox
          cases hox
          exact hnot y hy' hb ho
      obtain ⟨_, h2, h3⟩ := H.2 j (ready_mono hj hji)
      have hxu' : (listed.setIfInBounds j true).getD x true = false := by rw [getD_set_ne true hjx]; exact hxu
      have hfree' : ∀ k ok, ops[k]? = some ok → k ≠ i → (listed.setIfInBounds j true).getD k true = false → (∀ e ∈ ok.after, Region.binds md e = true → e.on ≠ i) → oi.apart ops ok = true := fun k ok hk hki hku hkn => hfree k ok hk hki (by
        by_cases hjk : j = k
        · subst hjk; exact hjun
        · rw [getD_set_ne true hjk] at hku; exact hku) hkn
      refine ⟨fun _ ha o B ho hB hBσ => ?_, fun _ ha => ?_⟩
      · rw [hoj] at ho
        cases ho
        have := h2 hjl ha oj B hoj hB hBσ
        rw [Array.setIfInBounds_comm _ _ (Ne.symm hji), Act.put_comm a v _ a2] at this
        exact ih _ _ _ hxu' hfree' (ready_mono hr (Ne.symm hji)) (hy.put (fun cs b => hsel i oi cs b hi) a3) this
      · obtain ⟨o, u, ho, hyj, hk⟩ := h3 hjl ha
        rw [hoj] at ho
        cases ho
        rw [Array.setIfInBounds_comm _ _ (Ne.symm hji), Act.put_comm a v _ a2] at hk
        exact ⟨oj, u, hoj, hyj.unput (fun cs b => hsel j oj cs b hoj) a1, ih _ _ _ hxu' hfree' (ready_mono hr (Ne.symm hji)) (hy.put (fun cs b => hsel i oi cs b hi) a3) hk⟩

/-- The lexical walk, with values that hold in each class. -/
def wpQA (P : Program) (ops : Array Oper) (w0 : World) (Fin : Act → Prop) : List Oper → Act → Prop
  | [], a => Fin a
  | o :: rest, a => ∃ v, YA P ops w0 o v a ∧ wpQA P ops w0 Fin rest (a.put o.dst v)
/-- What is listed when n more are. -/
def listTo (listed : Array Bool) (k : Nat) : Nat → Array Bool
  | 0 => listed
  | n + 1 => listTo (listed.setIfInBounds k true) (k + 1) n
/-- The Bool over a region. -/
def lexA (md : Region.Mode) (ops : Array Oper) (A : Nat → Bool) (tl : Nat) : Nat → Nat → Array Bool → Bool
  | 0, _, _ => true
  | n + 1, k, listed => (Region.ready md ops listed).contains k && Region.free md ops listed k && (!(A k)) && (k != tl) && (waitsAt md ops tl k listed).isSome && lexA md ops A tl n (k + 1) (listed.setIfInBounds k true)

theorem anyA_lex (hs : Region.noSelect ops = true) (m : Nat) : ∀ (l : List Oper) (k : Nat) (listed : Array Bool) (a : Act), (∀ j, j < l.length → l[j]? = ops[k + j]?) → lexA md ops A tl l.length k listed = true →
    wpQA P ops w0 (anyA P md ops Q w0 A tl Z T m (listTo listed k l.length) []) l a → anyA P md ops Q w0 A tl Z T (l.length + m) listed [] a
  | [], _, _, a, _, _, h => by simpa [wpQA, listTo] using h
  | o :: l, k, listed, a, hl, hB, h => by
    have h0 : ops[k]? = some o := by simpa using (hl 0 (by simp)).symm
    simp only [List.length_cons, lexA, Bool.and_eq_true] at hB
    obtain ⟨⟨⟨⟨⟨hr, hf⟩, hk1⟩, hk2⟩, hwt⟩, hB'⟩ := hB
    obtain ⟨x, hxw⟩ := Option.isSome_iff_exists.1 hwt
    have hxp := List.find?_some hxw
    simp only [Bool.and_eq_true, Bool.not_eq_true'] at hxp
    obtain ⟨⟨hx1, hx2⟩, hx3⟩ := hxp
    obtain ⟨v, hy, hK⟩ := h
    have ih := anyA_lex hs m l (k + 1) (listed.setIfInBounds k true) (a.put o.dst v) (fun j hj => by have := hl (j + 1) (by simp; omega); simpa [Nat.add_assoc, Nat.add_comm 1 j] using this) hB' hK
    have e : (o :: l).length + m = (l.length + m) + 1 := by simp; omega
    rw [e]
    refine anyA_take (x := x) h0 (by simpa using hk1) (by simpa using hk2) (Region.noSelect_spec hs) ?_ (fun oL hoL => ?_) (l.length + m) listed [] a hx1 (Region.free_spec h0 hf) (by simpa using hr) hy ih
    · simp only [Bool.or_eq_true, beq_iff_eq] at hx2
      rcases hx2 with h1 | h1
      · exact Or.inl h1
      · right
        cases hox : ops[x]? with
        | none => rw [hox] at h1; cases h1
        | some ox =>
          rw [hox] at h1
          simp only [List.any_eq_true, Bool.and_eq_true, beq_iff_eq] at h1
          obtain ⟨e, he, h2, h3⟩ := h1
          exact ⟨ox, rfl, e, by simpa using he, h2, h3⟩
    · rw [hoL] at hx3
      simp only [List.any_eq_true, Bool.and_eq_true, beq_iff_eq] at hx3
      obtain ⟨e, he, h2, h3⟩ := hx3
      exact ⟨e, by simpa using he, h2, h3⟩
end
end Go.Proofs.YtfnopcgmlfedfaaGreatDoor
