/- The law of AnyA, at its end and inside a round. -/
import Derived.OrdersIn
import Derived.Test.YtfnopcgmlfedfaaGreatDoorAnyA
namespace Go.Proofs.YtfnopcgmlfedfaaGreatDoor
open Go.RowKit

section
variable {P : Program} {ops : Array Oper} {md : Region.Mode} {Q : Exit → Act → World → Prop} {w0 : World} {A : Nat → Bool} {Z : Array Value} {T : TypeId}

theorem anyA_end (k : Nat) (oA oB : Oper) (listed : Array Bool) (a : Act) (hoA : ops[k]? = some oA) (hoB : ops[k + 1]? = some oB)
    (r0 : Region.ready md ops listed = [k, k + 1]) (r1 : Region.ready md ops (listed.setIfInBounds k true) = [k + 1]) (r2 : Region.ready md ops (listed.setIfInBounds (k + 1) true) = [k])
    (r3 : Region.ready md ops ((listed.setIfInBounds k true).setIfInBounds (k + 1) true) = [k + 2]) (r4 : Region.ready md ops (((listed.setIfInBounds k true).setIfInBounds (k + 1) true).setIfInBounds (k + 2) true) = [k + 3])
    (r5 : Region.ready md ops ((((listed.setIfInBounds k true).setIfInBounds (k + 1) true).setIfInBounds (k + 2) true).setIfInBounds (k + 3) true) = [])
    (hA1 : A k = true) (hA2 : A (k + 1) = true) (hdst : ∀ d, oA.dst = some d → oB.dst ≠ some d)
    (h : ∀ B1 B2 w, w0.heap.size ≤ B1 → w0.heap.size ≤ B2 → B1 ≠ B2 → Below w0.heap.size w0 w → w.heap[B1]? = some (.cells Z T (0, 0)) → w.heap[B2]? = some (.cells Z T (0, 0)) →
      wpOp P ops Q (k + 2) (fun a' w' => wpOp P ops Q (k + 3) (fun a'' w'' => Q .normal a'' w'') a' w') ((a.put oA.dst (.pointer (some ⟨B1, 0, none⟩))).put oB.dst (.pointer (some ⟨B2, 0, none⟩))) w) :
    anyA P md ops Q w0 A (k + 2) Z T 4 listed [] a := by
  have fin : ∀ B1 B2 w, w0.heap.size ≤ B1 → w0.heap.size ≤ B2 → B1 ≠ B2 → Below w0.heap.size w0 w → w.heap[B1]? = some (.cells Z T (0, 0)) → w.heap[B2]? = some (.cells Z T (0, 0)) →
      wpOp P ops Q (k + 2) (wpAny P md ops Q 1 (((listed.setIfInBounds k true).setIfInBounds (k + 1) true).setIfInBounds (k + 2) true)) ((a.put oA.dst (.pointer (some ⟨B1, 0, none⟩))).put oB.dst (.pointer (some ⟨B2, 0, none⟩))) w := by
    intro B1 B2 w h1 h2 h3 h4 h5 h6
    refine wpOp_mono (fun a' w' h' => ?_) (h B1 B2 w h1 h2 h3 h4 h5 h6)
    refine ⟨fun e => ?_, fun i hi => ?_⟩
    · rw [r4] at e
      cases e
    · rw [r4] at hi
      obtain rfl : i = k + 3 := by simpa using hi
      exact wpOp_mono (fun a'' w'' h'' => ⟨r5, h''⟩) h'
  refine ⟨by rw [r0]; simp, fun i hi => ?_⟩
  rw [r0] at hi
  rcases (show i = k ∨ i = k + 1 by simpa using hi) with rfl | rfl
  · refine ⟨fun e => by omega, fun _ _ o B ho hB _ => ?_, fun _ ha => absurd (hA1.symm.trans ha) (by simp)⟩
    rw [hoA] at ho
    cases ho
    refine ⟨by rw [r1]; simp, fun j hj => ?_⟩
    rw [r1] at hj
    obtain rfl : j = i + 1 := by simpa using hj
    refine ⟨fun e => by omega, fun _ _ o B' ho hB' hn => ?_, fun _ ha => absurd (hA2.symm.trans ha) (by simp)⟩
    rw [hoB] at ho
    cases ho
    have hne : B ≠ B' := fun e => hn (by simp [e])
    refine ⟨by rw [r3]; simp, fun m hm => ?_⟩
    rw [r3] at hm
    obtain rfl : m = i + 2 := by simpa using hm
    refine ⟨fun _ w hw => ?_, fun e => absurd rfl e, fun e => absurd rfl e⟩
    exact fin B B' w hB hB' hne hw.old (hw.at_ (i, B) (by simp)).2 (hw.at_ (i + 1, B') (by simp)).2
  · refine ⟨fun e => by omega, fun _ _ o B ho hB _ => ?_, fun _ ha => absurd (hA2.symm.trans ha) (by simp)⟩
    rw [hoB] at ho
    cases ho
    refine ⟨by rw [r2]; simp, fun j hj => ?_⟩
    rw [r2] at hj
    obtain rfl : j = k := by simpa using hj
    refine ⟨fun e => by omega, fun _ _ o B' ho hB' hn => ?_, fun _ ha => absurd (hA1.symm.trans ha) (by simp)⟩
    rw [hoA] at ho
    cases ho
    have hne : B' ≠ B := fun e => hn (by simp [e])
    have hcm : (listed.setIfInBounds (j + 1) true).setIfInBounds j true = (listed.setIfInBounds j true).setIfInBounds (j + 1) true := Array.setIfInBounds_comm _ _ (by omega)
    rw [hcm]
    refine ⟨by rw [r3]; simp, fun m hm => ?_⟩
    rw [r3] at hm
    obtain rfl : m = j + 2 := by simpa using hm
    refine ⟨fun _ w hw => ?_, fun e => absurd rfl e, fun e => absurd rfl e⟩
    rw [← Act.put_comm a _ _ hdst]
    exact fin B' B w hB' hB hne hw.old (hw.at_ (j, B') (by simp)).2 (hw.at_ (j + 1, B) (by simp)).2

theorem YA_of {o : Oper} {v : Value} {a : Act} (hg : o.guard = none) (h : ∀ W, Below w0.heap.size w0 W → (execOp a.eval o).run P W = .ok (.value v) W) : YA P ops w0 o v a := fun X hX =>
  .inl ⟨by simp [Region.wanted, hg], fun W hW => by unfold Oper.quietAt; rw [h W (hX.1 W hW)]; exact ⟨rfl, rfl⟩⟩
theorem YA_call {o : Oper} {v : Value} {a : Act} {f : FuncId} {args : Array Value} (hg : o.guard = none) (h : ∀ W, Below w0.heap.size w0 W → (execOp a.eval o).run P W = .ok (.enter f args) W)
    (hc : ∀ W, Calls P f args W fun e w' => e = .returned v ∧ Below W.heap.size W w') : YA P ops w0 o v a := fun X hX =>
  .inl ⟨by simp [Region.wanted, hg], fun W hW => by
    unfold Oper.quietAt
    rw [h W (hX.1 W hW)]
    exact ⟨rfl, (hc W).mono fun e w' ⟨h1, h2⟩ => ⟨h1, hX.2 W w' hW h2⟩⟩⟩

theorem wpQA_cons {F : Act → Prop} {o : Oper} {rest : List Oper} {a : Act} (v : Value) (h : YA P ops w0 o v a) (hr : wpQA P ops w0 F rest (a.put o.dst v)) : wpQA P ops w0 F (o :: rest) a := ⟨v, h, hr⟩
theorem wpQA_nil {F : Act → Prop} {a : Act} (h : F a) : wpQA P ops w0 F [] a := h

theorem wpOp_go {i : Nat} {o : Oper} {K : Act → World → Prop} {a : Act} {w : World} (ho : ops[i]? = some o) (hg : o.guard = none) (h : ∀ K' : Act → World → Prop, (∀ a w, K a w → K' a w) → o.wp P a w K' Q) : wpOp P ops Q i K a w :=
  wpOp_step ho (fun K' hK => by rw [if_pos (by simp [Region.wanted, hg])]; exact h K' hK)

/-- No operation defers. -/
def noDefer (ops : Array Oper) : Bool := ops.all fun o => match o.op with | .defer _ => false | _ => true
theorem noDefer_at (h : noDefer ops = true) {i : Nat} {o : Oper} (ho : ops[i]? = some o) : ∀ c, o.op ≠ .defer c := fun c hc => by
  have hm : o ∈ ops := Array.mem_of_getElem? ho
  have := Array.all_eq_true'.1 h o hm
  rw [hc] at this
  cases this

theorem opIn_of {lp n : Nat} (hd : noDefer ops = true) (hQ : ¬ LetsOut Q) {i : Nat} {K K' : Act → World → Prop} {a : Act} {w : World} (hK : ∀ a w, K a w → K' a w) (h : wpOp P ops Q i K a w) : wpOpIn (Fence.wide.inRound lp) n P ops Q i K' a w := by
  unfold wpOp at h
  unfold wpOpIn
  cases ho : ops[i]? with
  | none => simp only [ho] at h ⊢; exact hK _ _ h
  | some o =>
    simp only [ho] at h ⊢
    split
    · rename_i hw
      rw [if_pos hw] at h
      rcases h with h | h
      · refine ⟨fun _ _ => trivial, ?_⟩
        rw [Oper.semAt_eq _ _ _ (noDefer_at hd ho)]
        unfold Oper.wp at h
        generalize (execOp a.eval o).run P w = r at h ⊢
        cases r with
        | ok x w' =>
          cases x <;> simp only [Oper.upon] at h <;> simp only [Oper.uponIn]
          case value v => exact hK _ _ h
          case skip => exact hK _ _ h
          case defer d => exact hK _ _ h
          case enter f args =>
            refine ⟨fun e => by simp [Fence.wide, Fence.inRound] at e, CallsIn.inRound lp (callsIn_wide.2 (h.mono fun e w'' he => ?_))⟩
            cases e with
            | returned v => exact hK _ _ he
            | panicked c => exact he
            | outgrown => exact he
          case row row args =>
            refine ⟨fun e => by simp [Fence.wide, Fence.inRound] at e, fun c cs _ => ?_⟩
            obtain ⟨v, w'', hr, hs⟩ := h c cs
            exact ⟨v, w'', hK _ _ hr, stepsIn_wide.2 hs⟩
        | halt x w' => cases x <;> simp only [Oper.upon] at h <;> simp only [Oper.uponIn] <;> exact h
      · exact absurd h.2 hQ
    · rename_i hw
      rw [if_neg hw] at h
      exact ⟨fun _ _ => trivial, hK _ _ h⟩

theorem anyIn_of {lp n : Nat} (hd : noDefer ops = true) (hQ : ¬ LetsOut Q) : ∀ (fuel : Nat) (listed : Array Bool) (a : Act) (w : World), wpAny P md ops Q fuel listed a w → wpAnyIn (Fence.wide.inRound lp) n P md ops Q fuel listed a w
  | 0, _, _, _, h => h
  | fuel + 1, _, _, _, h => ⟨h.1, fun i hi => opIn_of hd hQ (fun a' w' h' => anyIn_of hd hQ fuel _ a' w' h') (h.2 i hi)⟩

/-- The region, inside a round. -/
theorem wpIn_region_two {id n lp : Nat} (k : Nat) (oA oB : Oper) {a : Act} {w : World} (hm : P.follows .mixedOrders = true) (hs : Region.noSelect ops = true) (hd : noDefer ops = true) (hQ : ¬ LetsOut Q) (hsz : ops.size = k + 4)
    (hoA : ops[k]? = some oA) (hoB : ops[k + 1]? = some oB)
    (hgA : oA.guard = none) (hgB : oB.guard = none) (hrA : ∀ ρ w, (execOp ρ oA).run P w = .ok (.value (.pointer (some ⟨w.heap.size, 0, none⟩))) (w.alloc (.cells Z T))) (hrB : ∀ ρ w, (execOp ρ oB).run P w = .ok (.value (.pointer (some ⟨w.heap.size, 0, none⟩))) (w.alloc (.cells Z T)))
    (hlex : lexA .any ops (fun i => i == k || i == k + 1) (k + 2) k 0 (Array.replicate ops.size false) = true)
    (r0 : Region.ready .any ops (listTo (Array.replicate ops.size false) 0 k) = [k, k + 1]) (r1 : Region.ready .any ops ((listTo (Array.replicate ops.size false) 0 k).setIfInBounds k true) = [k + 1]) (r2 : Region.ready .any ops ((listTo (Array.replicate ops.size false) 0 k).setIfInBounds (k + 1) true) = [k])
    (r3 : Region.ready .any ops (((listTo (Array.replicate ops.size false) 0 k).setIfInBounds k true).setIfInBounds (k + 1) true) = [k + 2]) (r4 : Region.ready .any ops ((((listTo (Array.replicate ops.size false) 0 k).setIfInBounds k true).setIfInBounds (k + 1) true).setIfInBounds (k + 2) true) = [k + 3])
    (r5 : Region.ready .any ops (((((listTo (Array.replicate ops.size false) 0 k).setIfInBounds k true).setIfInBounds (k + 1) true).setIfInBounds (k + 2) true).setIfInBounds (k + 3) true) = [])
    (hdst : ∀ d, oA.dst = some d → oB.dst ≠ some d)
    (h : wpQA P ops w (fun a' => ∀ B1 B2 w', w.heap.size ≤ B1 → w.heap.size ≤ B2 → B1 ≠ B2 → Below w.heap.size w w' → w'.heap[B1]? = some (.cells Z T (0, 0)) → w'.heap[B2]? = some (.cells Z T (0, 0)) →
      wpOp P ops Q (k + 2) (fun a' w' => wpOp P ops Q (k + 3) (fun a'' w'' => Q .normal a'' w'') a' w') ((a'.put oA.dst (.pointer (some ⟨B1, 0, none⟩))).put oB.dst (.pointer (some ⟨B2, 0, none⟩))) w') (ops.toList.take k) a) :
    (Code.region id ops true).wpIn (Fence.wide.inRound lp) n P Q a w := by
  have hlen : (ops.toList.take k).length = k := by rw [List.length_take, Array.length_toList, hsz]; omega
  refine wpIn_region_any hm (anyIn_of hd hQ _ _ _ _ ?_)
  refine any_of_A (w0 := w) (A := fun i => i == k || i == k + 1) (tl := k + 2) (Z := Z) (T := T) ?_ _ _ [] _ _ ⟨(Below.refl w.heap.size w).drew, fun p hp => by cases hp⟩ ?_
  · intro i o hi ho
    simp only [Bool.or_eq_true, beq_iff_eq] at hi
    rcases hi with rfl | rfl
    · rw [hoA] at ho; cases ho; exact ⟨hgA, hrA⟩
    · rw [hoB] at ho; cases ho; exact ⟨hgB, hrB⟩
  · have key := anyA_lex (P := P) (Q := Q) (w0 := w) (A := fun i => i == k || i == k + 1) (tl := k + 2) (Z := Z) (T := T) (md := .any) hs 4 (ops.toList.take k) 0 (Array.replicate ops.size false) a
      (fun j hj => by rw [hlen] at hj; rw [List.getElem?_take_of_lt hj]; simp) (by rw [hlen]; exact hlex)
    rw [hlen, ← hsz] at key
    refine key ?_
    have mono : ∀ (l : List Oper) (a : Act) (F G : Act → Prop), (∀ a, F a → G a) → wpQA P ops w F l a → wpQA P ops w G l a := by
      intro l
      induction l with
      | nil => intro a F G hFG hF; exact hFG _ hF
      | cons o r ih => intro a F G hFG hF; obtain ⟨v, h1, h2⟩ := hF; exact ⟨v, h1, ih _ F G hFG h2⟩
    refine mono _ _ _ _ (fun a' ha' => ?_) h
    exact anyA_end k oA oB _ a' hoA hoB r0 r1 r2 r3 r4 r5 (by simp) (by simp) hdst ha'
end
end Go.Proofs.YtfnopcgmlfedfaaGreatDoor
