/- A region that draws its order, inside a round too: operations that only read, stores that may come up while some reads have not, a last one that waits for all. One walk serves every order: the reads are the same in each class of worlds that the stores lead through. -/
import Derived.Test.YtfnopcgmlfedfaaGreatDoorAnyB
namespace Go.Proofs.YtfnopcgmlfedfaaGreatDoor
open Go.RowKit

section
variable {P : Program} {ops : Array Oper} {md : Region.Mode} {Q : Exit → Act → World → Prop} {C : List Nat → World → Prop} {A : Nat → Bool} {tl : Nat}

/-- In each of the classes the operation leaves v. -/
def YG (P : Program) (ops : Array Oper) (C : List Nat → World → Prop) (o : Oper) (v : Value) (a : Act) : Prop := ∀ σ, YieldsIn P ops (C σ) o v a
/-- The operation leads from one class to the next. -/
def EG (P : Program) (ops : Array Oper) (C : List Nat → World → Prop) (i : Nat) (σ : List Nat) (o : Oper) (a : Act) : Prop :=
  Region.wanted o (yielded ops a.tmps) = true ∧ ∀ w, C σ w → ∃ w', (execOp a.eval o).run P w = .ok .skip w' ∧ C (i :: σ) w'

/-- Whatever order is picked from here on. -/
def anyG (P : Program) (md : Region.Mode) (ops : Array Oper) (Q : Exit → Act → World → Prop) (C : List Nat → World → Prop) (A : Nat → Bool) (tl : Nat) : Nat → Array Bool → List Nat → Act → Prop
  | 0, _, _, _ => False
  | fuel + 1, listed, σ, a => Region.ready md ops listed ≠ [] ∧ ∀ i ∈ Region.ready md ops listed,
      (i = tl → ∀ w, C σ w → wpOp P ops Q i (wpAny P md ops Q fuel (listed.setIfInBounds i true)) a w) ∧
      (i ≠ tl → A i = true → ∃ o, ops[i]? = some o ∧ EG P ops C i σ o a ∧ anyG P md ops Q C A tl fuel (listed.setIfInBounds i true) (i :: σ) (a.put o.dst undef)) ∧
      (i ≠ tl → A i = false → ∃ o v, ops[i]? = some o ∧ YG P ops C o v a ∧ anyG P md ops Q C A tl fuel (listed.setIfInBounds i true) σ (a.put o.dst v))

theorem any_of_G : ∀ (fuel : Nat) (listed : Array Bool) (σ : List Nat) (a : Act) (w : World), C σ w → anyG P md ops Q C A tl fuel listed σ a → wpAny P md ops Q fuel listed a w
  | 0, _, _, _, _, _, h => h.elim
  | fuel + 1, listed, σ, a, w, hw, h => ⟨fun e => absurd e h.1, fun i hi => by
      obtain ⟨h1, h2, h3⟩ := h.2 i hi
      by_cases e : i = tl
      · exact h1 e w hw
      · cases ha : A i with
        | true =>
          obtain ⟨o, ho, ⟨hg, hr⟩, hk⟩ := h2 e ha
          obtain ⟨w', hrun, hC⟩ := hr w hw
          refine wpOp_step ho (fun K' hK => ?_)
          rw [if_pos hg]
          unfold Oper.wp
          rw [hrun]
          exact hK _ _ (any_of_G fuel _ _ _ _ hC hk)
        | false =>
          obtain ⟨o, v, ho, hy, hk⟩ := h3 e ha
          exact wpOp_of_qOp (C := C σ) hw (fun a' w' hw' hk' => any_of_G fuel _ σ a' w' hw' hk') ((hy σ).qOp ho hk)⟩

theorem YG.put {o oj : Oper} {v u : Value} {a : Act} (h : YG P ops C o v a) (hs : ∀ cs b, o.op ≠ .select cs b) (hap : ∀ d, oj.dst = some d → d ∉ o.looksAt ops) : YG P ops C o v (a.put oj.dst u) := fun σ =>
  (h σ).of_same (execOp_put o hs a oj.dst u hap) (wanted_put o a oj.dst u hap)
theorem YG.unput {o oi : Oper} {v u : Value} {a : Act} (h : YG P ops C o v (a.put oi.dst u)) (hs : ∀ cs b, o.op ≠ .select cs b) (hap : ∀ d, oi.dst = some d → d ∉ o.looksAt ops) : YG P ops C o v a := fun σ =>
  (h σ).of_same (execOp_put o hs a oi.dst u hap).symm (wanted_put o a oi.dst u hap).symm
theorem EG.unput {i : Nat} {σ : List Nat} {o oi : Oper} {u : Value} {a : Act} (h : EG P ops C i σ o (a.put oi.dst u)) (hs : ∀ cs b, o.op ≠ .select cs b) (hap : ∀ d, oi.dst = some d → d ∉ o.looksAt ops) : EG P ops C i σ o a := by
  unfold EG at *
  rw [wanted_put o a oi.dst u hap, execOp_put o hs a oi.dst u hap] at h
  exact h

/-- An operation that yields its value in each class, may come up now, and is apart from what does not wait for it, may be taken first. -/
theorem anyG_take {i x : Nat} {oi : Oper} {v : Value} (hi : ops[i]? = some oi) (hia : A i = false) (hit : i ≠ tl) (hsel : ∀ (j : Nat) (o : Oper) cs b, ops[j]? = some o → o.op ≠ .select cs b)
    (hx : x = i ∨ ∃ ox, ops[x]? = some ox ∧ ∃ e ∈ ox.after, Region.binds md e = true ∧ e.on = i)
    (hwait : ∀ oL, ops[tl]? = some oL → ∃ e ∈ oL.after, Region.binds md e = true ∧ e.on = x) :
    ∀ (fuel : Nat) (listed : Array Bool) (σ : List Nat) (a : Act), listed.getD x true = false →
      (∀ j oj, ops[j]? = some oj → j ≠ i → listed.getD j true = false → (∀ e ∈ oj.after, Region.binds md e = true → e.on ≠ i) → oi.apart ops oj = true) →
      i ∈ Region.ready md ops listed → YG P ops C oi v a →
      anyG P md ops Q C A tl fuel (listed.setIfInBounds i true) σ (a.put oi.dst v) → anyG P md ops Q C A tl (fuel + 1) listed σ a := by
  intro fuel
  induction fuel with
  | zero => intro _ _ _ _ _ _ _ H; exact H.elim
  | succ fuel ih =>
    intro listed σ a hxu hfree hr hy H
    have hun : listed.getD i true = false := (mem_ready.1 hr).1
    have clash : listed.getD i false = true → False := fun h1 => by
      rcases Nat.lt_or_ge i listed.size with h' | h'
      · simp [h'] at hun h1; rw [hun] at h1; cases h1
      · simp [Array.getElem?_eq_none h'] at h1
    have clashx : listed.getD x false = true → False := fun h1 => by
      rcases Nat.lt_or_ge x listed.size with h' | h'
      · simp [h'] at hxu h1; rw [hxu] at h1; cases h1
      · simp [Array.getElem?_eq_none h'] at h1
    refine ⟨fun e => (by rw [e] at hr; cases hr), fun j hj => ?_⟩
    obtain ⟨hjun, oj, hoj, hall⟩ := mem_ready.1 hj
    have hjl : j ≠ tl := fun e => by
      subst e
      obtain ⟨y, hy', hb, ho⟩ := hwait oj hoj
      exact clashx (by have := hall y hy' hb; rwa [ho] at this)
    refine ⟨fun e => absurd e hjl, ?_⟩
    by_cases hji : j = i
    · subst hji
      exact ⟨fun _ ha => absurd (hia.symm.trans ha) (by simp), fun _ _ => ⟨oi, v, hi, hy, H⟩⟩
    · have hnot : ∀ e ∈ oj.after, Region.binds md e = true → e.on ≠ i := fun e he hb heq => clash (by have := hall e he hb; rwa [heq] at this)
      obtain ⟨a1, a2, a3⟩ := Oper.apart_spec (hfree j oj hoj hji hjun hnot)
      have hjx : j ≠ x := fun e => by
        rcases hx with rfl | ⟨ox, hox, y, hy', hb, ho⟩
        · exact hji e
        · subst e
          rw [hoj] at hox
          cases hox
          exact hnot y hy' hb ho
      obtain ⟨_, h2, h3⟩ := H.2 j (ready_mono hj hji)
      have hxu' : (listed.setIfInBounds j true).getD x true = false := by rw [getD_set_ne true hjx]; exact hxu
      have hfree' : ∀ k ok, ops[k]? = some ok → k ≠ i → (listed.setIfInBounds j true).getD k true = false → (∀ e ∈ ok.after, Region.binds md e = true → e.on ≠ i) → oi.apart ops ok = true := fun k ok hk hki hku hkn => hfree k ok hk hki (by
        by_cases hjk : j = k
        · subst hjk; exact hjun
        · rw [getD_set_ne true hjk] at hku; exact hku) hkn
      refine ⟨fun _ ha => ?_, fun _ ha => ?_⟩
      · obtain ⟨o, ho, heg, hk⟩ := h2 hjl ha
        rw [hoj] at ho
        cases ho
        rw [Array.setIfInBounds_comm _ _ (Ne.symm hji), Act.put_comm a v _ a2] at hk
        exact ⟨oj, hoj, heg.unput (fun cs b => hsel j oj cs b hoj) a1, ih _ _ _ hxu' hfree' (ready_mono hr (Ne.symm hji)) (hy.put (fun cs b => hsel i oi cs b hi) a3) hk⟩
      · obtain ⟨o, u, ho, hyj, hk⟩ := h3 hjl ha
        rw [hoj] at ho
        cases ho
        rw [Array.setIfInBounds_comm _ _ (Ne.symm hji), Act.put_comm a v _ a2] at hk
        exact ⟨oj, u, hoj, hyj.unput (fun cs b => hsel j oj cs b hoj) a1, ih _ _ _ hxu' hfree' (ready_mono hr (Ne.symm hji)) (hy.put (fun cs b => hsel i oi cs b hi) a3) hk⟩

/-- The lexical walk, with values that hold in each class. -/
def wpQG (P : Program) (ops : Array Oper) (C : List Nat → World → Prop) (Fin : Act → Prop) : List Oper → Act → Prop
  | [], a => Fin a
  | o :: rest, a => ∃ v, YG P ops C o v a ∧ wpQG P ops C Fin rest (a.put o.dst v)

theorem anyG_lex (hs : Region.noSelect ops = true) (m : Nat) : ∀ (l : List Oper) (k : Nat) (listed : Array Bool) (a : Act), (∀ j, j < l.length → l[j]? = ops[k + j]?) → lexA md ops A tl l.length k listed = true →
    wpQG P ops C (anyG P md ops Q C A tl m (listTo listed k l.length) []) l a → anyG P md ops Q C A tl (l.length + m) listed [] a
  | [], _, _, a, _, _, h => by simpa [wpQG, listTo] using h
  | o :: l, k, listed, a, hl, hB, h => by
    have h0 : ops[k]? = some o := by simpa using (hl 0 (by simp)).symm
    simp only [List.length_cons, lexA, Bool.and_eq_true] at hB
    obtain ⟨⟨⟨⟨⟨hr, hf⟩, hk1⟩, hk2⟩, hwt⟩, hB'⟩ := hB
    obtain ⟨x, hxw⟩ := Option.isSome_iff_exists.1 hwt
    have hxp := List.find?_some hxw
    simp only [Bool.and_eq_true, Bool.not_eq_true'] at hxp
    obtain ⟨⟨hx1, hx2⟩, hx3⟩ := hxp
    obtain ⟨v, hy, hK⟩ := h
    have ih := anyG_lex hs m l (k + 1) (listed.setIfInBounds k true) (a.put o.dst v) (fun j hj => by have := hl (j + 1) (by simp; omega); simpa [Nat.add_assoc, Nat.add_comm 1 j] using this) hB' hK
    have e : (o :: l).length + m = (l.length + m) + 1 := by simp; omega
    rw [e]
    refine anyG_take (x := x) h0 (by simpa using hk1) (by simpa using hk2) (Region.noSelect_spec hs) ?_ (fun oL hoL => ?_) (l.length + m) listed [] a hx1 (Region.free_spec h0 hf) (by simpa using hr) hy ih
    · simp only [Bool.or_eq_true, beq_iff_eq] at hx2
      rcases hx2 with h1 | h1
      · exact Or.inl h1
      · right
        cases hox : ops[x]? with
        | none => rw [hox] at h1; cases h1
        | some ox =>
          rw [hox] at h1
          simp only [List.any_eq_true, Bool.and_eq_true, beq_iff_eq] at h1
          obtain ⟨e, he, h2, h3⟩ := h1
          exact ⟨ox, rfl, e, by simpa using he, h2, h3⟩
    · rw [hoL] at hx3
      simp only [List.any_eq_true, Bool.and_eq_true, beq_iff_eq] at hx3
      obtain ⟨e, he, h2, h3⟩ := hx3
      exact ⟨e, by simpa using he, h2, h3⟩

/-- Two classes: ahead of the one store, and behind it. -/
def two (C0 C1 : World → Prop) : List Nat → World → Prop
  | [] => C0
  | _ :: _ => C1

theorem YG_of {C0 C1 : World → Prop} {o : Oper} {v : Value} {a : Act} (hg : o.guard = none) (h : ∀ W, C0 W ∨ C1 W → (execOp a.eval o).run P W = .ok (.value v) W) : YG P ops (two C0 C1) o v a := fun σ =>
  .inl ⟨by simp [Region.wanted, hg], fun W hW => by
    unfold Oper.quietAt
    rw [h W (by cases σ with | nil => exact .inl hW | cons _ _ => exact .inr hW)]
    exact ⟨rfl, rfl⟩⟩
theorem wpQG_cons {F : Act → Prop} {o : Oper} {rest : List Oper} {a : Act} (v : Value) (h : YG P ops C o v a) (hr : wpQG P ops C F rest (a.put o.dst v)) : wpQG P ops C F (o :: rest) a := ⟨v, h, hr⟩
theorem wpQG_nil {F : Act → Prop} {a : Act} (h : F a) : wpQG P ops C F [] a := h
theorem wpQG_mono : ∀ (l : List Oper) (a : Act) (F G : Act → Prop), (∀ a, F a → G a) → wpQG P ops C F l a → wpQG P ops C G l a
  | [], _, _, _, hFG, hF => hFG _ hF
  | _ :: r, _, F, G, hFG, ⟨v, h1, h2⟩ => ⟨v, h1, wpQG_mono r _ F G hFG h2⟩

/-- The region, inside a round: quiet operations, a store that waits for some of them alone, one more, the last store. -/
theorem wpIn_region_stores {id n lp : Nat} (k : Nat) (oS oI : Oper) (v : Value) (C0 C1 : World → Prop) {a : Act} {w : World} (hm : P.follows .mixedOrders = true) (hs : Region.noSelect ops = true) (hd : noDefer ops = true) (hQ : ¬ LetsOut Q) (hsz : ops.size = k + 3)
    (hoS : ops[k]? = some oS) (hoI : ops[k + 1]? = some oI) (hgS : oS.guard = none)
    (L0 : Array Bool) (hL0 : L0 = Array.replicate ops.size false) (L : Array Bool) (hL : L = listTo L0 0 k)
    (hlex : lexA .any ops (fun i => i == k) (k + 2) k 0 L0 = true)
    (q0 : Region.ready .any ops L = [k]) (q1 : Region.ready .any ops (L.setIfInBounds k true) = [k + 1])
    (q2 : Region.ready .any ops ((L.setIfInBounds k true).setIfInBounds (k + 1) true) = [k + 2])
    (q3 : Region.ready .any ops (((L.setIfInBounds k true).setIfInBounds (k + 1) true).setIfInBounds (k + 2) true) = [])
    (hC : C0 w.drew)
    (h : wpQG P ops (two C0 C1) (fun a' => (∀ w', C0 w' → ∃ w'', (execOp a'.eval oS).run P w' = .ok .skip w'' ∧ C1 w'') ∧ YG P ops (two C0 C1) oI v (a'.put oS.dst undef) ∧
      ∀ w', C1 w' → wpOp P ops Q (k + 2) (fun a'' w'' => Q .normal a'' w'') ((a'.put oS.dst undef).put oI.dst v) w') (ops.toList.take k) a) :
    (Code.region id ops true).wpIn (Fence.wide.inRound lp) n P Q a w := by
  subst hL0
  have hlen : (ops.toList.take k).length = k := by rw [List.length_take, Array.length_toList, hsz]; omega
  refine wpIn_region_any hm (anyIn_of hd hQ _ _ _ _ ?_)
  refine any_of_G (C := two C0 C1) (A := fun i => i == k) (tl := k + 2) _ _ [] _ _ hC ?_
  have key := anyG_lex (P := P) (Q := Q) (C := two C0 C1) (A := fun i => i == k) (tl := k + 2) (md := .any) hs 3 (ops.toList.take k) 0 (Array.replicate ops.size false) a
    (fun j hj => by rw [hlen] at hj; rw [List.getElem?_take_of_lt hj]; simp) (by rw [hlen]; exact hlex)
  rw [hlen, ← hsz, ← hL] at key
  refine key (wpQG_mono _ _ _ _ (fun a' ha' => ?_) h)
  obtain ⟨h1, h2, h3⟩ := ha'
  refine ⟨by rw [q0]; simp, fun i hi => ?_⟩
  rw [q0] at hi
  obtain rfl : i = k := by simpa using hi
  refine ⟨fun e => by omega, fun _ _ => ⟨oS, hoS, ⟨by simp [Region.wanted, hgS], h1⟩, ?_⟩, fun _ ha => by simp at ha⟩
  refine ⟨by rw [q1]; simp, fun j hj => ?_⟩
  rw [q1] at hj
  obtain rfl : j = i + 1 := by simpa using hj
  refine ⟨fun e => by omega, fun _ ha => by simp at ha, fun _ _ => ⟨oI, v, hoI, h2, ?_⟩⟩
  refine ⟨by rw [q2]; simp, fun m hm => ?_⟩
  rw [q2] at hm
  obtain rfl : m = i + 2 := by simpa using hm
  exact ⟨fun _ w' hw' => wpOp_mono (fun a'' w'' h'' => ⟨q3, h''⟩) (h3 w' hw'), fun e => absurd rfl e, fun e => absurd rfl e⟩
end
end Go.Proofs.YtfnopcgmlfedfaaGreatDoor
