/- The law of AnyA, where one operation that only moves a value may come behind the first store. -/
import Derived.Test.YtfnopcgmlfedfaaGreatDoorAnyB
namespace Go.Proofs.YtfnopcgmlfedfaaGreatDoor
open Go.RowKit

section
variable {P : Program} {ops : Array Oper} {md : Region.Mode} {Q : Exit → Act → World → Prop} {w0 : World} {A : Nat → Bool} {Z : Array Value} {T : TypeId}

theorem anyA_end5 (k : Nat) (oC oA oB oS : Oper) (v : Value) (L : Array Bool) (a : Act) (hoC : ops[k]? = some oC) (hoA : ops[k + 1]? = some oA) (hoB : ops[k + 2]? = some oB) (hoS : ops[k + 3]? = some oS)
    (q0 : Region.ready md ops L = [k, k + 1, k + 2]) (qC : Region.ready md ops (L.setIfInBounds k true) = [k + 1, k + 2])
    (qA : Region.ready md ops (L.setIfInBounds (k + 1) true) = [k, k + 2]) (qB : Region.ready md ops (L.setIfInBounds (k + 2) true) = [k, k + 1])
    (qCA : Region.ready md ops ((L.setIfInBounds k true).setIfInBounds (k + 1) true) = [k + 2]) (qCB : Region.ready md ops ((L.setIfInBounds k true).setIfInBounds (k + 2) true) = [k + 1])
    (qAB : Region.ready md ops ((L.setIfInBounds (k + 1) true).setIfInBounds (k + 2) true) = [k, k + 3])
    (qCAB : Region.ready md ops (((L.setIfInBounds k true).setIfInBounds (k + 1) true).setIfInBounds (k + 2) true) = [k + 3])
    (qABS : Region.ready md ops (((L.setIfInBounds (k + 1) true).setIfInBounds (k + 2) true).setIfInBounds (k + 3) true) = [k])
    (qCABS : Region.ready md ops ((((L.setIfInBounds k true).setIfInBounds (k + 1) true).setIfInBounds (k + 2) true).setIfInBounds (k + 3) true) = [k + 4])
    (qall : Region.ready md ops (((((L.setIfInBounds k true).setIfInBounds (k + 1) true).setIfInBounds (k + 2) true).setIfInBounds (k + 3) true).setIfInBounds (k + 4) true) = [])
    (hA0 : A k = false) (hA1 : A (k + 1) = true) (hA2 : A (k + 2) = true)
    (dAB : ∀ d, oA.dst = some d → oB.dst ≠ some d) (dCA : ∀ d, oC.dst = some d → oA.dst ≠ some d) (dCB : ∀ d, oC.dst = some d → oB.dst ≠ some d)
    (hsel : ∀ cs b, oC.op ≠ .select cs b) (lA : ∀ d, oA.dst = some d → d ∉ oC.looksAt ops) (lB : ∀ d, oB.dst = some d → d ∉ oC.looksAt ops)
    (hy : YA P ops w0 oC v a)
    (h : ∀ B1 B2 w, w0.heap.size ≤ B1 → w0.heap.size ≤ B2 → B1 ≠ B2 → Below w0.heap.size w0 w → w.heap[B1]? = some (.cells Z T (0, 0)) → w.heap[B2]? = some (.cells Z T (0, 0)) →
      wpOp P ops Q (k + 3) (fun a' w' => wpOp P ops Q (k + 4) (fun a'' w'' => Q .normal a'' w'') a' w') (((a.put oC.dst v).put oA.dst (.pointer (some ⟨B1, 0, none⟩))).put oB.dst (.pointer (some ⟨B2, 0, none⟩))) w)
    (h2 : ∀ B1 B2 w, w0.heap.size ≤ B1 → w0.heap.size ≤ B2 → B1 ≠ B2 → Below w0.heap.size w0 w → w.heap[B1]? = some (.cells Z T (0, 0)) → w.heap[B2]? = some (.cells Z T (0, 0)) →
      wpOp P ops Q (k + 3) (fun a' w' => wpOp P ops Q k (fun b w'' => wpOp P ops Q (k + 4) (fun a'' w'' => Q .normal a'' w'') b w'') a' w') ((a.put oA.dst (.pointer (some ⟨B1, 0, none⟩))).put oB.dst (.pointer (some ⟨B2, 0, none⟩))) w) :
    anyA P md ops Q w0 A (k + 3) Z T 5 L [] a := by
  have last : ∀ a' w', wpOp P ops Q (k + 4) (fun a'' w'' => Q .normal a'' w'') a' w' → wpAny P md ops Q 1 ((((L.setIfInBounds k true).setIfInBounds (k + 1) true).setIfInBounds (k + 2) true).setIfInBounds (k + 3) true) a' w' := by
    intro a' w' h'
    refine ⟨fun e => ?_, fun i hi => ?_⟩
    · rw [qCABS] at e
      cases e
    · rw [qCABS] at hi
      obtain rfl : i = k + 4 := by simpa using hi
      exact wpOp_mono (fun a'' w'' h'' => ⟨qall, h''⟩) h'
  have fin : ∀ B1 B2 w, w0.heap.size ≤ B1 → w0.heap.size ≤ B2 → B1 ≠ B2 → Below w0.heap.size w0 w → w.heap[B1]? = some (.cells Z T (0, 0)) → w.heap[B2]? = some (.cells Z T (0, 0)) →
      wpOp P ops Q (k + 3) (wpAny P md ops Q 1 ((((L.setIfInBounds k true).setIfInBounds (k + 1) true).setIfInBounds (k + 2) true).setIfInBounds (k + 3) true)) (((a.put oC.dst v).put oA.dst (.pointer (some ⟨B1, 0, none⟩))).put oB.dst (.pointer (some ⟨B2, 0, none⟩))) w :=
    fun B1 B2 w g1 g2 g3 g4 g5 g6 => wpOp_mono last (h B1 B2 w g1 g2 g3 g4 g5 g6)
  have cm1 : (((L.setIfInBounds (k + 1) true).setIfInBounds (k + 2) true).setIfInBounds (k + 3) true).setIfInBounds k true = (((L.setIfInBounds k true).setIfInBounds (k + 1) true).setIfInBounds (k + 2) true).setIfInBounds (k + 3) true := by
    rw [Array.setIfInBounds_comm (i := k + 3) (j := k) _ _ (by omega), Array.setIfInBounds_comm (i := k + 2) (j := k) _ _ (by omega), Array.setIfInBounds_comm (i := k + 1) (j := k) _ _ (by omega)]
  have fin2 : ∀ B1 B2 w, w0.heap.size ≤ B1 → w0.heap.size ≤ B2 → B1 ≠ B2 → Below w0.heap.size w0 w → w.heap[B1]? = some (.cells Z T (0, 0)) → w.heap[B2]? = some (.cells Z T (0, 0)) →
      wpOp P ops Q (k + 3) (wpAny P md ops Q 2 (((L.setIfInBounds (k + 1) true).setIfInBounds (k + 2) true).setIfInBounds (k + 3) true)) ((a.put oA.dst (.pointer (some ⟨B1, 0, none⟩))).put oB.dst (.pointer (some ⟨B2, 0, none⟩))) w := by
    intro B1 B2 w g1 g2 g3 g4 g5 g6
    refine wpOp_mono (fun a' w' h' => ?_) (h2 B1 B2 w g1 g2 g3 g4 g5 g6)
    refine ⟨fun e => ?_, fun i hi => ?_⟩
    · rw [qABS] at e
      cases e
    · rw [qABS] at hi
      obtain rfl : i = k := by simpa using hi
      refine wpOp_mono (fun b w'' h'' => ?_) h'
      rw [cm1]
      exact last b w'' h''
  -- the two allocations, the move done
  have two : ∀ (s : List (Nat × Nat)), s = [] → anyA P md ops Q w0 A (k + 3) Z T 4 (L.setIfInBounds k true) s (a.put oC.dst v) := by
    rintro s rfl
    refine ⟨by rw [qC]; simp, fun i hi => ?_⟩
    rw [qC] at hi
    rcases (show i = k + 1 ∨ i = k + 2 by simpa using hi) with rfl | rfl
    · refine ⟨fun e => by omega, fun _ _ o B ho hB _ => ?_, fun _ ha => absurd (hA1.symm.trans ha) (by simp)⟩
      rw [hoA] at ho
      cases ho
      refine ⟨by rw [qCA]; simp, fun j hj => ?_⟩
      rw [qCA] at hj
      obtain rfl : j = k + 2 := by simpa using hj
      refine ⟨fun e => by omega, fun _ _ o B' ho hB' hn => ?_, fun _ ha => absurd (hA2.symm.trans ha) (by simp)⟩
      rw [hoB] at ho
      cases ho
      refine ⟨by rw [qCAB]; simp, fun m hm => ?_⟩
      rw [qCAB] at hm
      obtain rfl : m = k + 3 := by simpa using hm
      exact ⟨fun _ w hw => fin B B' w hB hB' (fun e => hn (by simp [e])) hw.old (hw.at_ (k + 1, B) (by simp)).2 (hw.at_ (k + 2, B') (by simp)).2, fun e => absurd rfl e, fun e => absurd rfl e⟩
    · refine ⟨fun e => by omega, fun _ _ o B ho hB _ => ?_, fun _ ha => absurd (hA2.symm.trans ha) (by simp)⟩
      rw [hoB] at ho
      cases ho
      refine ⟨by rw [qCB]; simp, fun j hj => ?_⟩
      rw [qCB] at hj
      obtain rfl : j = k + 1 := by simpa using hj
      refine ⟨fun e => by omega, fun _ _ o B' ho hB' hn => ?_, fun _ ha => absurd (hA1.symm.trans ha) (by simp)⟩
      rw [hoA] at ho
      cases ho
      rw [Array.setIfInBounds_comm (i := k + 2) (j := k + 1) _ _ (by omega)]
      refine ⟨by rw [qCAB]; simp, fun m hm => ?_⟩
      rw [qCAB] at hm
      obtain rfl : m = k + 3 := by simpa using hm
      refine ⟨fun _ w hw => ?_, fun e => absurd rfl e, fun e => absurd rfl e⟩
      rw [← Act.put_comm _ _ _ dAB]
      exact fin B' B w hB' hB (fun e => hn (by simp [e])) hw.old (hw.at_ (k + 1, B') (by simp)).2 (hw.at_ (k + 2, B) (by simp)).2
  -- both allocations done, the move not yet
  have both : ∀ B1 B2 (σ : List (Nat × Nat)), w0.heap.size ≤ B1 → w0.heap.size ≤ B2 → B1 ≠ B2 → (k + 1, B1) ∈ σ → (k + 2, B2) ∈ σ →
      anyA P md ops Q w0 A (k + 3) Z T 3 ((L.setIfInBounds (k + 1) true).setIfInBounds (k + 2) true) σ ((a.put oA.dst (.pointer (some ⟨B1, 0, none⟩))).put oB.dst (.pointer (some ⟨B2, 0, none⟩))) := by
    intro B1 B2 σ g1 g2 g3 m1 m2
    refine ⟨by rw [qAB]; simp, fun i hi => ?_⟩
    rw [qAB] at hi
    rcases (show i = k ∨ i = k + 3 by simpa using hi) with rfl | rfl
    · refine ⟨fun e => by omega, fun _ ha => absurd (hA0.symm.trans ha) (by simp), fun _ _ => ⟨oC, v, hoC, (hy.put hsel lA).put hsel lB, ?_⟩⟩
      have e1 : ((L.setIfInBounds (i + 1) true).setIfInBounds (i + 2) true).setIfInBounds i true = ((L.setIfInBounds i true).setIfInBounds (i + 1) true).setIfInBounds (i + 2) true := by
        rw [Array.setIfInBounds_comm (i := i + 2) (j := i) _ _ (by omega), Array.setIfInBounds_comm (i := i + 1) (j := i) _ _ (by omega)]
      rw [e1, ← Act.put_comm _ _ _ dCB, ← Act.put_comm _ _ _ dCA]
      refine ⟨by rw [qCAB]; simp, fun m hm => ?_⟩
      rw [qCAB] at hm
      obtain rfl : m = i + 3 := by simpa using hm
      exact ⟨fun _ w hw => fin B1 B2 w g1 g2 g3 hw.old (hw.at_ _ m1).2 (hw.at_ _ m2).2, fun e => absurd rfl e, fun e => absurd rfl e⟩
    · exact ⟨fun _ w hw => fin2 B1 B2 w g1 g2 g3 hw.old (hw.at_ _ m1).2 (hw.at_ _ m2).2, fun e => absurd rfl e, fun e => absurd rfl e⟩
  refine ⟨by rw [q0]; simp, fun i hi => ?_⟩
  rw [q0] at hi
  rcases (show i = k ∨ i = k + 1 ∨ i = k + 2 by simpa using hi) with rfl | rfl | rfl
  · exact ⟨fun e => by omega, fun _ ha => absurd (hA0.symm.trans ha) (by simp), fun _ _ => ⟨oC, v, hoC, hy, two [] rfl⟩⟩
  · refine ⟨fun e => by omega, fun _ _ o B ho hB _ => ?_, fun _ ha => absurd (hA1.symm.trans ha) (by simp)⟩
    rw [hoA] at ho
    cases ho
    refine ⟨by rw [qA]; simp, fun j hj => ?_⟩
    rw [qA] at hj
    rcases (show j = k ∨ j = k + 2 by simpa using hj) with rfl | rfl
    · refine ⟨fun e => by omega, fun _ ha => absurd (hA0.symm.trans ha) (by simp), fun _ _ => ⟨oC, v, hoC, hy.put hsel lA, ?_⟩⟩
      rw [Array.setIfInBounds_comm (i := j + 1) (j := j) _ _ (by omega), ← Act.put_comm _ _ _ dCA]
      refine ⟨by rw [qCA]; simp, fun m hm => ?_⟩
      rw [qCA] at hm
      obtain rfl : m = j + 2 := by simpa using hm
      refine ⟨fun e => by omega, fun _ _ o B' ho hB' hn => ?_, fun _ ha => absurd (hA2.symm.trans ha) (by simp)⟩
      rw [hoB] at ho
      cases ho
      refine ⟨by rw [qCAB]; simp, fun m hm => ?_⟩
      rw [qCAB] at hm
      obtain rfl : m = j + 3 := by simpa using hm
      exact ⟨fun _ w hw => fin B B' w hB hB' (fun e => hn (by simp [e])) hw.old (hw.at_ (j + 1, B) (by simp)).2 (hw.at_ (j + 2, B') (by simp)).2, fun e => absurd rfl e, fun e => absurd rfl e⟩
    · refine ⟨fun e => by omega, fun _ _ o B' ho hB' hn => ?_, fun _ ha => absurd (hA2.symm.trans ha) (by simp)⟩
      rw [hoB] at ho
      cases ho
      exact both B B' _ hB hB' (fun e => hn (by simp [e])) (by simp) (by simp)
  · refine ⟨fun e => by omega, fun _ _ o B ho hB _ => ?_, fun _ ha => absurd (hA2.symm.trans ha) (by simp)⟩
    rw [hoB] at ho
    cases ho
    refine ⟨by rw [qB]; simp, fun j hj => ?_⟩
    rw [qB] at hj
    rcases (show j = k ∨ j = k + 1 by simpa using hj) with rfl | rfl
    · refine ⟨fun e => by omega, fun _ ha => absurd (hA0.symm.trans ha) (by simp), fun _ _ => ⟨oC, v, hoC, hy.put hsel lB, ?_⟩⟩
      rw [Array.setIfInBounds_comm (i := j + 2) (j := j) _ _ (by omega), ← Act.put_comm _ _ _ dCB]
      refine ⟨by rw [qCB]; simp, fun m hm => ?_⟩
      rw [qCB] at hm
      obtain rfl : m = j + 1 := by simpa using hm
      refine ⟨fun e => by omega, fun _ _ o B' ho hB' hn => ?_, fun _ ha => absurd (hA1.symm.trans ha) (by simp)⟩
      rw [hoA] at ho
      cases ho
      rw [Array.setIfInBounds_comm (i := j + 2) (j := j + 1) _ _ (by omega)]
      refine ⟨by rw [qCAB]; simp, fun m hm => ?_⟩
      rw [qCAB] at hm
      obtain rfl : m = j + 3 := by simpa using hm
      refine ⟨fun _ w hw => ?_, fun e => absurd rfl e, fun e => absurd rfl e⟩
      rw [← Act.put_comm _ _ _ dAB]
      exact fin B' B w hB' hB (fun e => hn (by simp [e])) hw.old (hw.at_ (j + 1, B') (by simp)).2 (hw.at_ (j + 2, B) (by simp)).2
    · refine ⟨fun e => by omega, fun _ _ o B' ho hB' hn => ?_, fun _ ha => absurd (hA1.symm.trans ha) (by simp)⟩
      rw [hoA] at ho
      cases ho
      rw [Array.setIfInBounds_comm (i := k + 2) (j := k + 1) _ _ (by omega), ← Act.put_comm _ _ _ dAB]
      exact both B' B _ hB' hB (fun e => hn (by simp [e])) (by simp) (by simp)

/-- The region, inside a round. -/
theorem wpIn_region_three {id n lp : Nat} (k : Nat) (oC oA oB oS : Oper) (v : Value) {a : Act} {w : World} (hm : P.follows .mixedOrders = true) (hs : Region.noSelect ops = true) (hd : noDefer ops = true) (hQ : ¬ LetsOut Q) (hsz : ops.size = k + 5)
    (hoC : ops[k]? = some oC) (hoA : ops[k + 1]? = some oA) (hoB : ops[k + 2]? = some oB) (hoS : ops[k + 3]? = some oS)
    (hgA : oA.guard = none) (hgB : oB.guard = none) (hrA : ∀ ρ w, (execOp ρ oA).run P w = .ok (.value (.pointer (some ⟨w.heap.size, 0, none⟩))) (w.alloc (.cells Z T))) (hrB : ∀ ρ w, (execOp ρ oB).run P w = .ok (.value (.pointer (some ⟨w.heap.size, 0, none⟩))) (w.alloc (.cells Z T)))
    (L0 : Array Bool) (hL0 : L0 = Array.replicate ops.size false) (L : Array Bool) (hL : L = listTo L0 0 k)
    (hlex : lexA .any ops (fun i => i == k + 1 || i == k + 2) (k + 3) k 0 L0 = true)
    (q0 : Region.ready .any ops L = [k, k + 1, k + 2]) (qC : Region.ready .any ops (L.setIfInBounds k true) = [k + 1, k + 2])
    (qA : Region.ready .any ops (L.setIfInBounds (k + 1) true) = [k, k + 2]) (qB : Region.ready .any ops (L.setIfInBounds (k + 2) true) = [k, k + 1])
    (qCA : Region.ready .any ops ((L.setIfInBounds k true).setIfInBounds (k + 1) true) = [k + 2]) (qCB : Region.ready .any ops ((L.setIfInBounds k true).setIfInBounds (k + 2) true) = [k + 1])
    (qAB : Region.ready .any ops ((L.setIfInBounds (k + 1) true).setIfInBounds (k + 2) true) = [k, k + 3])
    (qCAB : Region.ready .any ops (((L.setIfInBounds k true).setIfInBounds (k + 1) true).setIfInBounds (k + 2) true) = [k + 3])
    (qABS : Region.ready .any ops (((L.setIfInBounds (k + 1) true).setIfInBounds (k + 2) true).setIfInBounds (k + 3) true) = [k])
    (qCABS : Region.ready .any ops ((((L.setIfInBounds k true).setIfInBounds (k + 1) true).setIfInBounds (k + 2) true).setIfInBounds (k + 3) true) = [k + 4])
    (qall : Region.ready .any ops (((((L.setIfInBounds k true).setIfInBounds (k + 1) true).setIfInBounds (k + 2) true).setIfInBounds (k + 3) true).setIfInBounds (k + 4) true) = [])
    (dAB : ∀ d, oA.dst = some d → oB.dst ≠ some d) (dCA : ∀ d, oC.dst = some d → oA.dst ≠ some d) (dCB : ∀ d, oC.dst = some d → oB.dst ≠ some d)
    (lA : ∀ d, oA.dst = some d → d ∉ oC.looksAt ops) (lB : ∀ d, oB.dst = some d → d ∉ oC.looksAt ops)
    (h : wpQA P ops w (fun a' => YA P ops w oC v a' ∧ ∀ B1 B2 w', w.heap.size ≤ B1 → w.heap.size ≤ B2 → B1 ≠ B2 → Below w.heap.size w w' → w'.heap[B1]? = some (.cells Z T (0, 0)) → w'.heap[B2]? = some (.cells Z T (0, 0)) →
      wpOp P ops Q (k + 3) (fun a' w' => wpOp P ops Q (k + 4) (fun a'' w'' => Q .normal a'' w'') a' w') (((a'.put oC.dst v).put oA.dst (.pointer (some ⟨B1, 0, none⟩))).put oB.dst (.pointer (some ⟨B2, 0, none⟩))) w' ∧
      wpOp P ops Q (k + 3) (fun a' w' => wpOp P ops Q k (fun b w'' => wpOp P ops Q (k + 4) (fun a'' w'' => Q .normal a'' w'') b w'') a' w') ((a'.put oA.dst (.pointer (some ⟨B1, 0, none⟩))).put oB.dst (.pointer (some ⟨B2, 0, none⟩))) w') (ops.toList.take k) a) :
    (Code.region id ops true).wpIn (Fence.wide.inRound lp) n P Q a w := by
  subst hL0
  have hlen : (ops.toList.take k).length = k := by rw [List.length_take, Array.length_toList, hsz]; omega
  refine wpIn_region_any hm (anyIn_of hd hQ _ _ _ _ ?_)
  refine any_of_A (w0 := w) (A := fun i => i == k + 1 || i == k + 2) (tl := k + 3) (Z := Z) (T := T) ?_ _ _ [] _ _ ⟨(Below.refl w.heap.size w).drew, fun p hp => by cases hp⟩ ?_
  · intro i o hi ho
    simp only [Bool.or_eq_true, beq_iff_eq] at hi
    rcases hi with rfl | rfl
    · rw [hoA] at ho; cases ho; exact ⟨hgA, hrA⟩
    · rw [hoB] at ho; cases ho; exact ⟨hgB, hrB⟩
  · have key := anyA_lex (P := P) (Q := Q) (w0 := w) (A := fun i => i == k + 1 || i == k + 2) (tl := k + 3) (Z := Z) (T := T) (md := .any) hs 5 (ops.toList.take k) 0 (Array.replicate ops.size false) a
      (fun j hj => by rw [hlen] at hj; rw [List.getElem?_take_of_lt hj]; simp) (by rw [hlen]; exact hlex)
    rw [hlen, ← hsz, ← hL] at key
    refine key ?_
    have mono : ∀ (l : List Oper) (a : Act) (F G : Act → Prop), (∀ a, F a → G a) → wpQA P ops w F l a → wpQA P ops w G l a := by
      intro l
      induction l with
      | nil => intro a F G hFG hF; exact hFG _ hF
      | cons o r ih => intro a F G hFG hF; obtain ⟨v, h1, h2⟩ := hF; exact ⟨v, h1, ih _ F G hFG h2⟩
    refine mono _ _ _ _ (fun a' ha' => ?_) h
    exact anyA_end5 k oC oA oB oS v _ a' hoC hoA hoB hoS q0 qC qA qB qCA qCB qAB qCAB qABS qCABS qall (by simp) (by simp) (by simp) dAB dCA dCB (fun cs b => Region.noSelect_spec hs k oC cs b hoC) lA lB ha'.1
      (fun B1 B2 w' g1 g2 g3 g4 g5 g6 => (ha'.2 B1 B2 w' g1 g2 g3 g4 g5 g6).1) (fun B1 B2 w' g1 g2 g3 g4 g5 g6 => (ha'.2 B1 B2 w' g1 g2 g3 g4 g5 g6).2)
end
end Go.Proofs.YtfnopcgmlfedfaaGreatDoor
