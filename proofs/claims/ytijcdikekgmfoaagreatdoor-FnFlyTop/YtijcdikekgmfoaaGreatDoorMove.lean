/- A region that draws its order, some of whose operations turn the world: each has one value in whatever world those that came up ahead of it have led to, and leads on to the next class of worlds (a class for each set of operations that have come up). One walk of the lexical order serves every order; what waits for all of them may stand behind. -/
import Derived.WalkKit
import Derived.BigQuiet
namespace Go.Proofs.YtijcdikekgmfoaaGreatDoor
open Go.RowKit

section
variable {P : Program} {ops : Array Oper} {md : Region.Mode} {Q : Exit → Act → World → Prop} {C : Array Bool → World → Prop} {N : Nat}

/-- What is asked of an operation that has been carried out: its value, and a world of the next class. -/
def moveUpon (P : Program) (C' : World → Prop) (v : Value) : Result Next → Prop
  | .ok (.value u) w' => u = v ∧ C' w'
  | .ok .skip w' => v = undef ∧ C' w'
  | .ok (.enter f args) w' => Calls P f args w' (fun e w'' => e = .returned v ∧ C' w'')
  | _ => False

/-- What has come up had all come up that it waits for. -/
def Closed (md : Region.Mode) (ops : Array Oper) (L : Array Bool) : Prop := ∀ j o, ops[j]? = some o → L.getD j false = true → ∀ e ∈ o.after, Region.binds md e = true → L.getD e.on false = true
theorem Closed.set {L : Array Bool} {i : Nat} (h : Closed md ops L) (hi : i ∈ Region.ready md ops L) : Closed md ops (L.setIfInBounds i true) := by
  obtain ⟨_, oi, hoi, hall⟩ := mem_ready.1 hi
  have up : ∀ k, L.getD k false = true → (L.setIfInBounds i true).getD k false = true := fun k hk => by
    by_cases e : i = k
    · subst e
      rcases Nat.lt_or_ge i L.size with h' | h'
      · simp [h']
      · simp [Array.getElem?_eq_none h'] at hk
    · rw [getD_set_ne false e]; exact hk
  intro j o ho hj e he hb
  by_cases hji : i = j
  · subst hji
    rw [hoi] at ho
    cases ho
    exact up _ (hall e he hb)
  · rw [getD_set_ne false hji] at hj
    exact up _ (h j o ho hj e he hb)
theorem Closed.start (n : Nat) : Closed md ops (Array.replicate n false) := by
  intro j o _ hj
  rcases Nat.lt_or_ge j n with h' | h'
  · simp [h'] at hj
  · simp [h'] at hj

/-- Operation i leaves v in its slot, whatever has come up ahead of it, and leads to the class in which it has come up too. -/
def Moves (P : Program) (md : Region.Mode) (ops : Array Oper) (C : Array Bool → World → Prop) (i : Nat) (o : Oper) (v : Value) (a : Act) : Prop :=
  (Region.wanted o (yielded ops a.tmps) = true ∧ ∀ L w, Closed md ops L → i ∈ Region.ready md ops L → C L w → moveUpon P (C (L.setIfInBounds i true)) v ((execOp a.eval o).run P w)) ∨
  (Region.wanted o (yielded ops a.tmps) = false ∧ v = undef ∧ ∀ L w, Closed md ops L → i ∈ Region.ready md ops L → C L w → C (L.setIfInBounds i true) w)

theorem Moves.of_same {i : Nat} {o : Oper} {v : Value} {a a' : Act} (h : Moves P md ops C i o v a) (he : execOp a'.eval o = execOp a.eval o)
    (hw : Region.wanted o (yielded ops a'.tmps) = Region.wanted o (yielded ops a.tmps)) : Moves P md ops C i o v a' := by
  unfold Moves at *
  rw [he, hw]
  exact h

/-- Whatever order is picked from here on, of the first N. -/
def anyM (P : Program) (md : Region.Mode) (ops : Array Oper) (C : Array Bool → World → Prop) (N : Nat) (fin : Array Bool → Act → Prop) : Nat → Array Bool → Act → Prop
  | 0, L, a => (∀ j ∈ Region.ready md ops L, N ≤ j) ∧ fin L a
  | n + 1, L, a => Region.ready md ops L ≠ [] ∧ ∀ i ∈ Region.ready md ops L, i < N ∧ ∃ o v, ops[i]? = some o ∧ Moves P md ops C i o v a ∧ anyM P md ops C N fin n (L.setIfInBounds i true) (a.put o.dst v)

theorem any_of_M {m : Nat} {fin : Array Bool → Act → Prop} (hfin : ∀ L a w, fin L a → C L w → wpAny P md ops Q m L a w) :
    ∀ (n : Nat) (L : Array Bool) (a : Act) (w : World), Closed md ops L → C L w → anyM P md ops C N fin n L a → wpAny P md ops Q (n + m) L a w
  | 0, L, a, w, _, hw, h => by rw [Nat.zero_add]; exact hfin L a w h.2 hw
  | n + 1, L, a, w, hcl, hw, h => by
    rw [show n + 1 + m = (n + m) + 1 by omega]
    refine ⟨fun e => absurd e h.1, fun i hi => ?_⟩
    obtain ⟨_, o, v, ho, hm, hk⟩ := h.2 i hi
    refine wpOp_step ho (fun K' hK => ?_)
    rcases hm with ⟨hwt, hm⟩ | ⟨hwt, rfl, hm⟩
    · rw [if_pos hwt]
      have h3 := hm L w hcl hi hw
      unfold Oper.wp
      generalize (execOp a.eval o).run P w = r at *
      cases r with
      | ok x w' =>
        cases x <;> simp only [moveUpon] at h3 <;> simp only [Oper.upon]
        case value u =>
          obtain ⟨e1, e2⟩ := h3
          rw [e1]
          exact hK _ _ (any_of_M hfin n _ _ _ (hcl.set hi) e2 hk)
        case skip =>
          obtain ⟨e1, e2⟩ := h3
          rw [← e1]
          exact hK _ _ (any_of_M hfin n _ _ _ (hcl.set hi) e2 hk)
        case enter f args =>
          exact h3.mono fun e w'' ⟨he, hw''⟩ => by subst he; exact hK _ _ (any_of_M hfin n _ _ _ (hcl.set hi) hw'' hk)
      | halt x w' => simp only [moveUpon] at h3
    · rw [if_neg (by rw [hwt]; exact Bool.false_ne_true)]
      exact hK _ _ (any_of_M hfin n _ _ _ (hcl.set hi) (hm L w hcl hi hw) hk)

/-- An operation that may come up now, and is apart from what does not wait for it, may be taken first. -/
theorem anyM_take {fin : Array Bool → Act → Prop} {i : Nat} {oi : Oper} {v : Value} (hi : ops[i]? = some oi) (hiN : i < N) (hsel : ∀ (j : Nat) (o : Oper) cs b, ops[j]? = some o → o.op ≠ .select cs b)
    (htail : ∀ L : Array Bool, Closed md ops L → L.getD i true = false → ∀ j ∈ Region.ready md ops L, j < N) :
    ∀ (n : Nat) (L : Array Bool) (a : Act), Closed md ops L →
      (∀ j oj, ops[j]? = some oj → j ≠ i → L.getD j true = false → (∀ e ∈ oj.after, Region.binds md e = true → e.on ≠ i) → oi.apart ops oj = true) →
      i ∈ Region.ready md ops L → Moves P md ops C i oi v a →
      anyM P md ops C N fin n (L.setIfInBounds i true) (a.put oi.dst v) → anyM P md ops C N fin (n + 1) L a := by
  intro n
  induction n with
  | zero =>
    intro L a hcl _ hr hy H
    refine ⟨fun e => (by rw [e] at hr; cases hr), fun j hj => ?_⟩
    by_cases hji : j = i
    · subst hji; exact ⟨hiN, oi, v, hi, hy, H⟩
    · have h1 := H.1 j (ready_mono hj hji)
      have h2 := htail L hcl (mem_ready.1 hr).1 j hj
      omega
  | succ n ih =>
    intro L a hcl hfree hr hy H
    refine ⟨fun e => (by rw [e] at hr; cases hr), fun j hj => ?_⟩
    by_cases hji : j = i
    · subst hji; exact ⟨hiN, oi, v, hi, hy, H⟩
    · obtain ⟨hjun, oj, hoj, hall⟩ := mem_ready.1 hj
      obtain ⟨hjN, o, u, ho, hyj, hk⟩ := H.2 j (ready_mono hj hji)
      rw [hoj] at ho
      cases ho
      have hun : L.getD i true = false := (mem_ready.1 hr).1
      have clash : L.getD i false = true → False := fun h1 => by
        rcases Nat.lt_or_ge i L.size with h' | h'
        · simp [h'] at hun h1; rw [hun] at h1; cases h1
        · simp [Array.getElem?_eq_none h'] at h1
      have hnot : ∀ e ∈ oj.after, Region.binds md e = true → e.on ≠ i := fun e he hb heq => clash (by have := hall e he hb; rwa [heq] at this)
      obtain ⟨a1, a2, a3⟩ := Oper.apart_spec (hfree j oj hoj hji hjun hnot)
      have hfree' : ∀ k ok, ops[k]? = some ok → k ≠ i → (L.setIfInBounds j true).getD k true = false → (∀ e ∈ ok.after, Region.binds md e = true → e.on ≠ i) → oi.apart ops ok = true := fun k ok hk hki hku hkn => hfree k ok hk hki (by
        by_cases hjk : j = k
        · subst hjk; exact hjun
        · rw [getD_set_ne true hjk] at hku; exact hku) hkn
      rw [Array.setIfInBounds_comm _ _ (Ne.symm hji), Act.put_comm a v _ a2] at hk
      exact ⟨hjN, oj, u, hoj, hyj.of_same (execOp_put oj (fun cs b => hsel j oj cs b hoj) a oi.dst v a1).symm (wanted_put oj a oi.dst v a1).symm,
        ih _ _ (hcl.set hj) hfree' (ready_mono hr (Ne.symm hji)) (hy.of_same (execOp_put oi (fun cs b => hsel i oi cs b hi) a oj.dst u a3) (wanted_put oi a oj.dst u a3)) hk⟩

/-- The lexical walk. -/
def wpMoves (P : Program) (md : Region.Mode) (ops : Array Oper) (C : Array Bool → World → Prop) (fin : Act → Prop) : List Oper → Nat → Act → Prop
  | [], _, a => fin a
  | o :: rest, k, a => ∃ v, Moves P md ops C k o v a ∧ wpMoves P md ops C fin rest (k + 1) (a.put o.dst v)
theorem wpMoves_nil {fin : Act → Prop} {k : Nat} {a : Act} (h : fin a) : wpMoves P md ops C fin [] k a := h
theorem wpMoves_mono {F G : Act → Prop} (hFG : ∀ a, F a → G a) : ∀ (l : List Oper) (k : Nat) (a : Act), wpMoves P md ops C F l k a → wpMoves P md ops C G l k a
  | [], _, _, h => hFG _ h
  | _ :: r, k, _, ⟨v, h1, h2⟩ => ⟨v, h1, wpMoves_mono hFG r (k + 1) _ h2⟩

/-- What is listed when n more are. -/
def listN (L : Array Bool) (k : Nat) : Nat → Array Bool
  | 0 => L
  | n + 1 => listN (L.setIfInBounds k true) (k + 1) n
/-- Operation t waits for operation i, by way of others too. -/
def waitT (md : Region.Mode) (ops : Array Oper) : Nat → Nat → Nat → Bool
  | 0, _, _ => false
  | n + 1, t, i => match ops[t]? with | some o => o.after.any fun e => Region.binds md e && (e.on == i || waitT md ops n e.on i) | none => false
theorem waitT_from {L : Array Bool} (hcl : Closed md ops L) : ∀ (n t i : Nat), waitT md ops n t i = true → (∀ o, ops[t]? = some o → ∀ e ∈ o.after, Region.binds md e = true → L.getD e.on false = true) → L.getD i false = true
  | 0, _, _, h, _ => by simp [waitT] at h
  | n + 1, t, i, h, hd => by
    unfold waitT at h
    cases ho : ops[t]? with
    | none => rw [ho] at h; cases h
    | some o =>
      rw [ho] at h
      simp only [Array.any_eq_true', Bool.and_eq_true, Bool.or_eq_true, beq_iff_eq] at h
      obtain ⟨e, he, hb, h3⟩ := h
      have h4 := hd o ho e he hb
      rcases h3 with rfl | h3
      · exact h4
      · exact waitT_from hcl n e.on i h3 (fun o' ho' => hcl e.on o' ho' h4)
theorem waitT_spec {n t i : Nat} {L : Array Bool} (hcl : Closed md ops L) (h : waitT md ops n t i = true) (ht : t ∈ Region.ready md ops L) : L.getD i false = true := by
  obtain ⟨_, o, ho, hall⟩ := mem_ready.1 ht
  exact waitT_from hcl n t i h (fun o' ho' => by rw [ho] at ho'; cases ho'; exact hall)
/-- The Bool over a region. -/
def lexM (md : Region.Mode) (ops : Array Oper) (N : Nat) : Nat → Nat → Array Bool → Bool
  | 0, _, L => (Region.ready md ops L).all fun j => decide (N ≤ j)
  | n + 1, k, L => (Region.ready md ops L).contains k && Region.free md ops L k && decide (k < N) && ((List.range ops.size).all fun t => decide (t < N) || waitT md ops 12 t k) && lexM md ops N n (k + 1) (L.setIfInBounds k true)

theorem anyM_lex {fin : Array Bool → Act → Prop} (hs : Region.noSelect ops = true) : ∀ (l : List Oper) (k : Nat) (L : Array Bool) (a : Act), Closed md ops L → (∀ j, j < l.length → l[j]? = ops[k + j]?) → lexM md ops N l.length k L = true →
    wpMoves P md ops C (fin (listN L k l.length)) l k a → anyM P md ops C N fin l.length L a
  | [], _, L, a, _, _, hB, h => by
    simp only [List.length_nil, lexM, List.all_eq_true, decide_eq_true_eq] at hB
    exact ⟨hB, h⟩
  | o :: l, k, L, a, hcl, hl, hB, h => by
    have h0 : ops[k]? = some o := by simpa using (hl 0 (by simp)).symm
    simp only [List.length_cons, lexM, Bool.and_eq_true, decide_eq_true_eq] at hB
    obtain ⟨⟨⟨⟨hr, hf⟩, hkN⟩, hwt⟩, hB'⟩ := hB
    obtain ⟨v, hy, hK⟩ := h
    have ih := anyM_lex hs l (k + 1) (L.setIfInBounds k true) (a.put o.dst v) (hcl.set (by simpa using hr)) (fun j hj => by have := hl (j + 1) (by simp; omega); simpa [Nat.add_assoc, Nat.add_comm 1 j] using this) hB' hK
    refine anyM_take h0 hkN (Region.noSelect_spec hs) (fun L' hcl' hL' j hj => ?_) l.length L a hcl (Region.free_spec h0 hf) (by simpa using hr) hy ih
    by_cases hjN : j < N
    · exact hjN
    · exfalso
      have hjs : j < ops.size := by
        obtain ⟨_, oj, hoj, _⟩ := mem_ready.1 hj
        exact (Array.getElem?_eq_some_iff.1 hoj).1
      have h1 := List.all_eq_true.1 hwt j (List.mem_range.2 hjs)
      simp only [Bool.or_eq_true, decide_eq_true_eq] at h1
      have h2 := waitT_spec hcl' (h1.resolve_left hjN) hj
      rcases Nat.lt_or_ge k L'.size with h' | h'
      · simp [h'] at hL' h2; rw [hL'] at h2; cases h2
      · simp [Array.getElem?_eq_none h'] at h2

/-- **The region**: the first N operations in any order, then what waits for all of them. -/
theorem wp_region_moves_at {id : Nat} {a : Act} {w : World} (N : Nat) (L0 L1 : Array Bool) (hm : P.follows .mixedOrders = true) (hs : Region.noSelect ops = true) (hN : N ≤ ops.size) (hL0 : Array.replicate ops.size false = L0) (hL1 : listN L0 0 N = L1)
    (hlex : lexM .any ops N N 0 L0 = true) (hC : C L0 w.drew)
    (h : wpMoves P .any ops C (fun a' => ∀ w', C L1 w' → wpAny P .any ops Q (ops.size - N) L1 a' w') (ops.toList.take N) 0 a) :
    (Code.region id ops true).wp P Q a w := by
  subst hL0 hL1
  have hlen : (ops.toList.take N).length = N := by rw [List.length_take, Array.length_toList]; omega
  refine wp_region_any hm ?_
  have key := anyM_lex (P := P) (C := C) (N := N) (md := .any) (fin := fun L a' => ∀ w', C L w' → wpAny P .any ops Q (ops.size - N) L a' w') hs (ops.toList.take N) 0 (Array.replicate ops.size false) a (Closed.start _)
    (fun j hj => by rw [hlen] at hj; rw [List.getElem?_take_of_lt hj]; simp) (by rw [hlen]; exact hlex)
  rw [hlen] at key
  have h2 := any_of_M (Q := Q) (m := ops.size - N) (fun L a' w' hf hw' => hf w' hw') N _ a w.drew (Closed.start _) hC (key h)
  rw [show N + (ops.size - N) = ops.size by omega] at h2
  exact h2

/-- All operations. -/
theorem wp_region_moves {id : Nat} {a : Act} {w : World} {l : List Oper} (L0 L1 : Array Bool) (hm : P.follows .mixedOrders = true) (hs : Region.noSelect l.toArray = true) (hL0 : Array.replicate l.length false = L0) (hL1 : listN L0 0 l.length = L1)
    (hlex : lexM .any l.toArray l.length l.length 0 L0 = true) (hC : C L0 w.drew) (he : Region.ready .any l.toArray L1 = [])
    (h : wpMoves P .any l.toArray C (fun a' => ∀ w', C L1 w' → Q .normal a' w') l 0 a) :
    (Code.region id l.toArray true).wp P Q a w := by
  refine wp_region_moves_at (C := C) l.length L0 L1 hm hs (by simp) (by simpa using hL0) hL1 hlex hC ?_
  simp only [List.take_length]
  refine wpMoves_mono (fun a' h' w' hw' => ?_) _ _ _ h
  simp only [List.size_toArray, Nat.sub_self]
  exact ⟨he, h' w' hw'⟩

/-- An operation that never enters a function. -/
def plainOp : Op → Bool
  | .move _ | .assign _ | .load _ _ | .fieldAddr _ _ _ | .indexAddr _ _ _ | .binOp _ _ _ _ _ | .unOp _ _ _ | .convert _ _ _ | .extract _ _ | .field _ _ _ | .index _ _ _ | .build _ _ | .pick _ _ _ => true
  | .call { callee := .builtin .len, .. } => true
  | _ => false
theorem val_noEnter {s : Sem Value} {w w' : World} {f : FuncId} {args : Array Value} : (do pure (Next.value (← s)) : Sem Next).run P w ≠ .ok (.enter f args) w' := by
  rw [Sem.run_bind]
  cases s.run P w with
  | ok v w2 => intro h; cases h
  | halt x w2 => intro h; cases h
theorem plain_noEnter {o : Oper} (hp : plainOp o.op = true) {ρ : Operand → Value} {w w' : World} {f : FuncId} {args : Array Value} : (execOp ρ o).run P w ≠ .ok (.enter f args) w' := by
  obtain ⟨dst, op, ty, gd, af, at_⟩ := o
  cases op <;> first
    | exact absurd hp Bool.false_ne_true
    | exact val_noEnter
    | (intro h; cases h)
    | (rename_i c
       obtain ⟨callee, cargs, ctys⟩ := c
       cases callee <;> first
         | exact absurd hp Bool.false_ne_true
         | (rename_i b
            cases b <;> first
              | exact absurd hp Bool.false_ne_true
              | exact val_noEnter (s := Builtin.len_ ctys ty (cargs.map ρ))))
    | (rename_i c x y
       show (do pure (Next.value (if ← asBool (ρ c) then ρ x else ρ y)) : Sem Next).run P w ≠ _
       rw [Sem.run_bind]
       cases (asBool (ρ c)).run P w with
       | ok v w2 => intro h; cases h
       | halt x w2 => intro h; cases h)

/-- Operations that only read, in a row: one walk in the class of all worlds that may be there. -/
theorem moves_quiet {fin : Act → Prop} {rest : List Oper} {U : World → Prop} (S : List Nat) (hU : ∀ L w, (∀ j ∈ S, L.getD j false = true) → C L w → U w) :
    ∀ (l : List Oper) (k : Nat) (a : Act), (l.all fun o => plainOp o.op) = true → ((List.range l.length).all fun j => S.all fun s => waitT md ops 12 (k + j) s) = true → (∀ j, k ≤ j → j < k + l.length → ∀ L w, C L w → C (L.setIfInBounds j true) w) →
      wpQuiet P ops U (fun a' => wpMoves P md ops C fin rest (k + l.length) a') l a → wpMoves P md ops C fin (l ++ rest) k a
  | [], k, a, _, _, _, h => h
  | o :: l, k, a, hp, hS, hcl, h => by
    simp only [List.all_cons, Bool.and_eq_true] at hp
    have hw0 : ∀ s ∈ S, waitT md ops 12 k s = true := by
      have h1 := List.all_eq_true.1 hS 0 (by simp)
      simpa using List.all_eq_true.1 h1
    have hS' : ((List.range l.length).all fun j => S.all fun s => waitT md ops 12 (k + 1 + j) s) = true := by
      refine List.all_eq_true.2 fun j hj => ?_
      have h1 := List.all_eq_true.1 hS (j + 1) (by simp at hj ⊢; exact hj)
      rwa [show k + (j + 1) = k + 1 + j by omega] at h1
    have hcl0 := hcl k (Nat.le_refl _) (by simp)
    have hcl' : ∀ j, k + 1 ≤ j → j < k + 1 + l.length → ∀ L w, C L w → C (L.setIfInBounds j true) w := fun j h1 h2 => hcl j (by omega) (by simp; omega)
    have hlen : k + (o :: l).length = k + 1 + l.length := by simp; omega
    rw [hlen] at h
    unfold wpQuiet at h
    split at h
    · rename_i hwt
      obtain ⟨v, hv, hk⟩ := h
      refine ⟨v, .inl ⟨hwt, fun L w hcL hr hC => ?_⟩, moves_quiet S hU l (k + 1) _ hp.2 hS' hcl' hk⟩
      have h3 := hv w (hU L w (fun s hs => waitT_spec hcL (hw0 s hs) hr) hC)
      unfold Oper.quietAt at h3
      have hne := @plain_noEnter P o hp.1 a.eval w
      generalize (execOp a.eval o).run P w = r at *
      cases r with
      | ok x w' =>
        cases x <;> simp only [Oper.quietUpon] at h3 <;> simp only [moveUpon]
        case value u =>
          obtain ⟨rfl, e2⟩ := h3
          exact ⟨e2, hcl0 L _ hC⟩
        case skip =>
          obtain ⟨rfl, e2⟩ := h3
          exact ⟨e2, hcl0 L _ hC⟩
        case enter f args => exact absurd rfl (hne (f := f) (args := args) (w' := w'))
      | halt x w' => simp only [Oper.quietUpon] at h3
    · rename_i hwt
      exact ⟨undef, .inr ⟨by simpa using hwt, rfl, fun L w _ _ hC => hcl0 L w hC⟩, moves_quiet S hU l (k + 1) _ hp.2 hS' hcl' h⟩

theorem wpQuiet_mono {U : World → Prop} {F G : Act → Prop} (hFG : ∀ a, F a → G a) : ∀ (l : List Oper) (a : Act), wpQuiet P ops U F l a → wpQuiet P ops U G l a
  | [], _, h => hFG _ h
  | o :: r, a, h => by
    unfold wpQuiet at *
    split
    · rename_i hw
      rw [if_pos hw] at h
      exact Oper.quiet_mono (fun a' h' => wpQuiet_mono hFG r a' h') h
    · rename_i hw
      rw [if_neg hw] at h
      exact wpQuiet_mono hFG r _ h

/-- An operation that turns the world. -/
theorem moves_one {fin : Act → Prop} {o : Oper} {rest : List Oper} {k : Nat} {a : Act} (v : Value) (hg : o.guard = none)
    (h : ∀ L w, Closed md ops L → k ∈ Region.ready md ops L → C L w → moveUpon P (C (L.setIfInBounds k true)) v ((execOp a.eval o).run P w)) (hr : wpMoves P md ops C fin rest (k + 1) (a.put o.dst v)) : wpMoves P md ops C fin (o :: rest) k a :=
  ⟨v, .inl ⟨by simp [Region.wanted, hg], h⟩, hr⟩
end
end Go.Proofs.YtijcdikekgmfoaaGreatDoor
