/- Joined texts: AnyC, AnyG, GrownMore, Walk, ErrLaid. -/
import Derived.ProofKit
import Derived.LaidLaws
import Derived.LaidHandle
import Derived.OpenShut
import Derived.Stop.Joined
import Derived.Test.YtgjleeamhkolhaaGreatDoorRows
import Derived.Test.YtgjleeamhkolhaaGreatDoorJ02
import Derived.Test.YtgjleeamhkolhaaGreatDoorOwnMore
import Derived.Test.YtgjleeamhkolhaaGreatDoorLkCode
namespace Go.Proofs.YtgjleeamhkolhaaGreatDoor
open Go.RowKit

section
variable {P : Program} {ops : Array Oper} {md : Region.Mode} {Q : Exit → Act → World → Prop} {w0 : World} {A : Nat → Bool} {Z : Array Value} {T : TypeId}

theorem anyA_end5 (k : Nat) (oC oA oB oS : Oper) (v : Value) (L : Array Bool) (a : Act) (hoC : ops[k]? = some oC) (hoA : ops[k + 1]? = some oA) (hoB : ops[k + 2]? = some oB) (hoS : ops[k + 3]? = some oS)
    (q0 : Region.ready md ops L = [k, k + 1, k + 2]) (qC : Region.ready md ops (L.setIfInBounds k true) = [k + 1, k + 2])
    (qA : Region.ready md ops (L.setIfInBounds (k + 1) true) = [k, k + 2]) (qB : Region.ready md ops (L.setIfInBounds (k + 2) true) = [k, k + 1])
    (qCA : Region.ready md ops ((L.setIfInBounds k true).setIfInBounds (k + 1) true) = [k + 2]) (qCB : Region.ready md ops ((L.setIfInBounds k true).setIfInBounds (k + 2) true) = [k + 1])
    (qAB : Region.ready md ops ((L.setIfInBounds (k + 1) true).setIfInBounds (k + 2) true) = [k, k + 3])
    (qCAB : Region.ready md ops (((L.setIfInBounds k true).setIfInBounds (k + 1) true).setIfInBounds (k + 2) true) = [k + 3])
    (qABS : Region.ready md ops (((L.setIfInBounds (k + 1) true).setIfInBounds (k + 2) true).setIfInBounds (k + 3) true) = [k])
    (qCABS : Region.ready md ops ((((L.setIfInBounds k true).setIfInBounds (k + 1) true).setIfInBounds (k + 2) true).setIfInBounds (k + 3) true) = [k + 4])
    (qall : Region.ready md ops (((((L.setIfInBounds k true).setIfInBounds (k + 1) true).setIfInBounds (k + 2) true).setIfInBounds (k + 3) true).setIfInBounds (k + 4) true) = [])
    (hA0 : A k = false) (hA1 : A (k + 1) = true) (hA2 : A (k + 2) = true)
    (dAB : ∀ d, oA.dst = some d → oB.dst ≠ some d) (dCA : ∀ d, oC.dst = some d → oA.dst ≠ some d) (dCB : ∀ d, oC.dst = some d → oB.dst ≠ some d)
    (hsel : ∀ cs b, oC.op ≠ .select cs b) (lA : ∀ d, oA.dst = some d → d ∉ oC.looksAt ops) (lB : ∀ d, oB.dst = some d → d ∉ oC.looksAt ops)
    (hy : YA P ops w0 oC v a)
    (h : ∀ B1 B2 w, w0.heap.size ≤ B1 → w0.heap.size ≤ B2 → B1 ≠ B2 → Below w0.heap.size w0 w → w.heap[B1]? = some (.cells Z T (0, 0)) → w.heap[B2]? = some (.cells Z T (0, 0)) →
      wpOp P ops Q (k + 3) (fun a' w' => wpOp P ops Q (k + 4) (fun a'' w'' => Q .normal a'' w'') a' w') (((a.put oC.dst v).put oA.dst (.pointer (some ⟨B1, 0, none⟩))).put oB.dst (.pointer (some ⟨B2, 0, none⟩))) w)
    (h2 : ∀ B1 B2 w, w0.heap.size ≤ B1 → w0.heap.size ≤ B2 → B1 ≠ B2 → Below w0.heap.size w0 w → w.heap[B1]? = some (.cells Z T (0, 0)) → w.heap[B2]? = some (.cells Z T (0, 0)) →
      wpOp P ops Q (k + 3) (fun a' w' => wpOp P ops Q k (fun b w'' => wpOp P ops Q (k + 4) (fun a'' w'' => Q .normal a'' w'') b w'') a' w') ((a.put oA.dst (.pointer (some ⟨B1, 0, none⟩))).put oB.dst (.pointer (some ⟨B2, 0, none⟩))) w) :
    anyA P md ops Q w0 A (k + 3) Z T 5 L [] a := by
  have last : ∀ a' w', wpOp P ops Q (k + 4) (fun a'' w'' => Q .normal a'' w'') a' w' → wpAny P md ops Q 1 ((((L.setIfInBounds k true).setIfInBounds (k + 1) true).setIfInBounds (k + 2) true).setIfInBounds (k + 3) true) a' w' := by
    intro a' w' h'
    refine ⟨fun e => ?_, fun i hi => ?_⟩
    · rw [qCABS] at e
      cases e
    · rw [qCABS] at hi
      obtain rfl : i = k + 4 := by simpa using hi
      exact wpOp_mono (fun a'' w'' h'' => ⟨qall, h''⟩) h'
  have fin : ∀ B1 B2 w, w0.heap.size ≤ B1 → w0.heap.size ≤ B2 → B1 ≠ B2 → Below w0.heap.size w0 w → w.heap[B1]? = some (.cells Z T (0, 0)) → w.heap[B2]? = some (.cells Z T (0, 0)) →
      wpOp P ops Q (k + 3) (wpAny P md ops Q 1 ((((L.setIfInBounds k true).setIfInBounds (k + 1) true).setIfInBounds (k + 2) true).setIfInBounds (k + 3) true)) (((a.put oC.dst v).put oA.dst (.pointer (some ⟨B1, 0, none⟩))).put oB.dst (.pointer (some ⟨B2, 0, none⟩))) w :=
    fun B1 B2 w g1 g2 g3 g4 g5 g6 => wpOp_mono last (h B1 B2 w g1 g2 g3 g4 g5 g6)
  have cm1 : (((L.setIfInBounds (k + 1) true).setIfInBounds (k + 2) true).setIfInBounds (k + 3) true).setIfInBounds k true = (((L.setIfInBounds k true).setIfInBounds (k + 1) true).setIfInBounds (k + 2) true).setIfInBounds (k + 3) true := by
    rw [Array.setIfInBounds_comm (i := k + 3) (j := k) _ _ (by omega), Array.setIfInBounds_comm (i := k + 2) (j := k) _ _ (by omega), Array.setIfInBounds_comm (i := k + 1) (j := k) _ _ (by omega)]
  have fin2 : ∀ B1 B2 w, w0.heap.size ≤ B1 → w0.heap.size ≤ B2 → B1 ≠ B2 → Below w0.heap.size w0 w → w.heap[B1]? = some (.cells Z T (0, 0)) → w.heap[B2]? = some (.cells Z T (0, 0)) →
      wpOp P ops Q (k + 3) (wpAny P md ops Q 2 (((L.setIfInBounds (k + 1) true).setIfInBounds (k + 2) true).setIfInBounds (k + 3) true)) ((a.put oA.dst (.pointer (some ⟨B1, 0, none⟩))).put oB.dst (.pointer (some ⟨B2, 0, none⟩))) w := by
    intro B1 B2 w g1 g2 g3 g4 g5 g6
    refine wpOp_mono (fun a' w' h' => ?_) (h2 B1 B2 w g1 g2 g3 g4 g5 g6)
    refine ⟨fun e => ?_, fun i hi => ?_⟩
    · rw [qABS] at e
      cases e
    · rw [qABS] at hi
      obtain rfl : i = k := by simpa using hi
      refine wpOp_mono (fun b w'' h'' => ?_) h'
      rw [cm1]
      exact last b w'' h''
  -- the two allocations, the move done
  have two : ∀ (s : List (Nat × Nat)), s = [] → anyA P md ops Q w0 A (k + 3) Z T 4 (L.setIfInBounds k true) s (a.put oC.dst v) := by
    rintro s rfl
    refine ⟨by rw [qC]; simp, fun i hi => ?_⟩
    rw [qC] at hi
    rcases (show i = k + 1 ∨ i = k + 2 by simpa using hi) with rfl | rfl
    · refine ⟨fun e => by omega, fun _ _ o B ho hB _ => ?_, fun _ ha => absurd (hA1.symm.trans ha) (by simp)⟩
      rw [hoA] at ho
      cases ho
      refine ⟨by rw [qCA]; simp, fun j hj => ?_⟩
      rw [qCA] at hj
      obtain rfl : j = k + 2 := by simpa using hj
      refine ⟨fun e => by omega, fun _ _ o B' ho hB' hn => ?_, fun _ ha => absurd (hA2.symm.trans ha) (by simp)⟩
      rw [hoB] at ho
      cases ho
      refine ⟨by rw [qCAB]; simp, fun m hm => ?_⟩
      rw [qCAB] at hm
      obtain rfl : m = k + 3 := by simpa using hm
      exact ⟨fun _ w hw => fin B B' w hB hB' (fun e => hn (by simp [e])) hw.old (hw.at_ (k + 1, B) (by simp)).2 (hw.at_ (k + 2, B') (by simp)).2, fun e => absurd rfl e, fun e => absurd rfl e⟩
    · refine ⟨fun e => by omega, fun _ _ o B ho hB _ => ?_, fun _ ha => absurd (hA2.symm.trans ha) (by simp)⟩
      rw [hoB] at ho
      cases ho
      refine ⟨by rw [qCB]; simp, fun j hj => ?_⟩
      rw [qCB] at hj
      obtain rfl : j = k + 1 := by simpa using hj
      refine ⟨fun e => by omega, fun _ _ o B' ho hB' hn => ?_, fun _ ha => absurd (hA1.symm.trans ha) (by simp)⟩
      rw [hoA] at ho
      cases ho
      rw [Array.setIfInBounds_comm (i := k + 2) (j := k + 1) _ _ (by omega)]
      refine ⟨by rw [qCAB]; simp, fun m hm => ?_⟩
      rw [qCAB] at hm
      obtain rfl : m = k + 3 := by simpa using hm
      refine ⟨fun _ w hw => ?_, fun e => absurd rfl e, fun e => absurd rfl e⟩
      rw [← Act.put_comm _ _ _ dAB]
      exact fin B' B w hB' hB (fun e => hn (by simp [e])) hw.old (hw.at_ (k + 1, B') (by simp)).2 (hw.at_ (k + 2, B) (by simp)).2
  -- both allocations done, the move not yet
  have both : ∀ B1 B2 (σ : List (Nat × Nat)), w0.heap.size ≤ B1 → w0.heap.size ≤ B2 → B1 ≠ B2 → (k + 1, B1) ∈ σ → (k + 2, B2) ∈ σ →
      anyA P md ops Q w0 A (k + 3) Z T 3 ((L.setIfInBounds (k + 1) true).setIfInBounds (k + 2) true) σ ((a.put oA.dst (.pointer (some ⟨B1, 0, none⟩))).put oB.dst (.pointer (some ⟨B2, 0, none⟩))) := by
    intro B1 B2 σ g1 g2 g3 m1 m2
    refine ⟨by rw [qAB]; simp, fun i hi => ?_⟩
    rw [qAB] at hi
    rcases (show i = k ∨ i = k + 3 by simpa using hi) with rfl | rfl
    · refine ⟨fun e => by omega, fun _ ha => absurd (hA0.symm.trans ha) (by simp), fun _ _ => ⟨oC, v, hoC, (hy.put hsel lA).put hsel lB, ?_⟩⟩
      have e1 : ((L.setIfInBounds (i + 1) true).setIfInBounds (i + 2) true).setIfInBounds i true = ((L.setIfInBounds i true).setIfInBounds (i + 1) true).setIfInBounds (i + 2) true := by
        rw [Array.setIfInBounds_comm (i := i + 2) (j := i) _ _ (by omega), Array.setIfInBounds_comm (i := i + 1) (j := i) _ _ (by omega)]
      rw [e1, ← Act.put_comm _ _ _ dCB, ← Act.put_comm _ _ _ dCA]
      refine ⟨by rw [qCAB]; simp, fun m hm => ?_⟩
      rw [qCAB] at hm
      obtain rfl : m = i + 3 := by simpa using hm
      exact ⟨fun _ w hw => fin B1 B2 w g1 g2 g3 hw.old (hw.at_ _ m1).2 (hw.at_ _ m2).2, fun e => absurd rfl e, fun e => absurd rfl e⟩
    · exact ⟨fun _ w hw => fin2 B1 B2 w g1 g2 g3 hw.old (hw.at_ _ m1).2 (hw.at_ _ m2).2, fun e => absurd rfl e, fun e => absurd rfl e⟩
  refine ⟨by rw [q0]; simp, fun i hi => ?_⟩
  rw [q0] at hi
  rcases (show i = k ∨ i = k + 1 ∨ i = k + 2 by simpa using hi) with rfl | rfl | rfl
  · exact ⟨fun e => by omega, fun _ ha => absurd (hA0.symm.trans ha) (by simp), fun _ _ => ⟨oC, v, hoC, hy, two [] rfl⟩⟩
  · refine ⟨fun e => by omega, fun _ _ o B ho hB _ => ?_, fun _ ha => absurd (hA1.symm.trans ha) (by simp)⟩
    rw [hoA] at ho
    cases ho
    refine ⟨by rw [qA]; simp, fun j hj => ?_⟩
    rw [qA] at hj
    rcases (show j = k ∨ j = k + 2 by simpa using hj) with rfl | rfl
    · refine ⟨fun e => by omega, fun _ ha => absurd (hA0.symm.trans ha) (by simp), fun _ _ => ⟨oC, v, hoC, hy.put hsel lA, ?_⟩⟩
      rw [Array.setIfInBounds_comm (i := j + 1) (j := j) _ _ (by omega), ← Act.put_comm _ _ _ dCA]
      refine ⟨by rw [qCA]; simp, fun m hm => ?_⟩
      rw [qCA] at hm
      obtain rfl : m = j + 2 := by simpa using hm
      refine ⟨fun e => by omega, fun _ _ o B' ho hB' hn => ?_, fun _ ha => absurd (hA2.symm.trans ha) (by simp)⟩
      rw [hoB] at ho
      cases ho
      refine ⟨by rw [qCAB]; simp, fun m hm => ?_⟩
      rw [qCAB] at hm
      obtain rfl : m = j + 3 := by simpa using hm
      exact ⟨fun _ w hw => fin B B' w hB hB' (fun e => hn (by simp [e])) hw.old (hw.at_ (j + 1, B) (by simp)).2 (hw.at_ (j + 2, B') (by simp)).2, fun e => absurd rfl e, fun e => absurd rfl e⟩
    · refine ⟨fun e => by omega, fun _ _ o B' ho hB' hn => ?_, fun _ ha => absurd (hA2.symm.trans ha) (by simp)⟩
      rw [hoB] at ho
      cases ho
      exact both B B' _ hB hB' (fun e => hn (by simp [e])) (by simp) (by simp)
  · refine ⟨fun e => by omega, fun _ _ o B ho hB _ => ?_, fun _ ha => absurd (hA2.symm.trans ha) (by simp)⟩
    rw [hoB] at ho
    cases ho
    refine ⟨by rw [qB]; simp, fun j hj => ?_⟩
    rw [qB] at hj
    rcases (show j = k ∨ j = k + 1 by simpa using hj) with rfl | rfl
    · refine ⟨fun e => by omega, fun _ ha => absurd (hA0.symm.trans ha) (by simp), fun _ _ => ⟨oC, v, hoC, hy.put hsel lB, ?_⟩⟩
      rw [Array.setIfInBounds_comm (i := j + 2) (j := j) _ _ (by omega), ← Act.put_comm _ _ _ dCB]
      refine ⟨by rw [qCB]; simp, fun m hm => ?_⟩
      rw [qCB] at hm
      obtain rfl : m = j + 1 := by simpa using hm
      refine ⟨fun e => by omega, fun _ _ o B' ho hB' hn => ?_, fun _ ha => absurd (hA1.symm.trans ha) (by simp)⟩
      rw [hoA] at ho
      cases ho
      rw [Array.setIfInBounds_comm (i := j + 2) (j := j + 1) _ _ (by omega)]
      refine ⟨by rw [qCAB]; simp, fun m hm => ?_⟩
      rw [qCAB] at hm
      obtain rfl : m = j + 3 := by simpa using hm
      refine ⟨fun _ w hw => ?_, fun e => absurd rfl e, fun e => absurd rfl e⟩
      rw [← Act.put_comm _ _ _ dAB]
      exact fin B' B w hB' hB (fun e => hn (by simp [e])) hw.old (hw.at_ (j + 1, B') (by simp)).2 (hw.at_ (j + 2, B) (by simp)).2
    · refine ⟨fun e => by omega, fun _ _ o B' ho hB' hn => ?_, fun _ ha => absurd (hA1.symm.trans ha) (by simp)⟩
      rw [hoA] at ho
      cases ho
      rw [Array.setIfInBounds_comm (i := k + 2) (j := k + 1) _ _ (by omega), ← Act.put_comm _ _ _ dAB]
      exact both B' B _ hB' hB (fun e => hn (by simp [e])) (by simp) (by simp)

theorem wpIn_region_three {id n lp : Nat} (k : Nat) (oC oA oB oS : Oper) (v : Value) {a : Act} {w : World} (hm : P.follows .mixedOrders = true) (hs : Region.noSelect ops = true) (hd : noDefer ops = true) (hQ : ¬ LetsOut Q) (hsz : ops.size = k + 5)
    (hoC : ops[k]? = some oC) (hoA : ops[k + 1]? = some oA) (hoB : ops[k + 2]? = some oB) (hoS : ops[k + 3]? = some oS)
    (hgA : oA.guard = none) (hgB : oB.guard = none) (hrA : ∀ ρ w, (execOp ρ oA).run P w = .ok (.value (.pointer (some ⟨w.heap.size, 0, none⟩))) (w.alloc (.cells Z T))) (hrB : ∀ ρ w, (execOp ρ oB).run P w = .ok (.value (.pointer (some ⟨w.heap.size, 0, none⟩))) (w.alloc (.cells Z T)))
    (L0 : Array Bool) (hL0 : L0 = Array.replicate ops.size false) (L : Array Bool) (hL : L = listTo L0 0 k)
    (hlex : lexA .any ops (fun i => i == k + 1 || i == k + 2) (k + 3) k 0 L0 = true)
    (q0 : Region.ready .any ops L = [k, k + 1, k + 2]) (qC : Region.ready .any ops (L.setIfInBounds k true) = [k + 1, k + 2])
    (qA : Region.ready .any ops (L.setIfInBounds (k + 1) true) = [k, k + 2]) (qB : Region.ready .any ops (L.setIfInBounds (k + 2) true) = [k, k + 1])
    (qCA : Region.ready .any ops ((L.setIfInBounds k true).setIfInBounds (k + 1) true) = [k + 2]) (qCB : Region.ready .any ops ((L.setIfInBounds k true).setIfInBounds (k + 2) true) = [k + 1])
    (qAB : Region.ready .any ops ((L.setIfInBounds (k + 1) true).setIfInBounds (k + 2) true) = [k, k + 3])
    (qCAB : Region.ready .any ops (((L.setIfInBounds k true).setIfInBounds (k + 1) true).setIfInBounds (k + 2) true) = [k + 3])
    (qABS : Region.ready .any ops (((L.setIfInBounds (k + 1) true).setIfInBounds (k + 2) true).setIfInBounds (k + 3) true) = [k])
    (qCABS : Region.ready .any ops ((((L.setIfInBounds k true).setIfInBounds (k + 1) true).setIfInBounds (k + 2) true).setIfInBounds (k + 3) true) = [k + 4])
    (qall : Region.ready .any ops (((((L.setIfInBounds k true).setIfInBounds (k + 1) true).setIfInBounds (k + 2) true).setIfInBounds (k + 3) true).setIfInBounds (k + 4) true) = [])
    (dAB : ∀ d, oA.dst = some d → oB.dst ≠ some d) (dCA : ∀ d, oC.dst = some d → oA.dst ≠ some d) (dCB : ∀ d, oC.dst = some d → oB.dst ≠ some d)
    (lA : ∀ d, oA.dst = some d → d ∉ oC.looksAt ops) (lB : ∀ d, oB.dst = some d → d ∉ oC.looksAt ops)
    (h : wpQA P ops w (fun a' => YA P ops w oC v a' ∧ ∀ B1 B2 w', w.heap.size ≤ B1 → w.heap.size ≤ B2 → B1 ≠ B2 → Below w.heap.size w w' → w'.heap[B1]? = some (.cells Z T (0, 0)) → w'.heap[B2]? = some (.cells Z T (0, 0)) →
      wpOp P ops Q (k + 3) (fun a' w' => wpOp P ops Q (k + 4) (fun a'' w'' => Q .normal a'' w'') a' w') (((a'.put oC.dst v).put oA.dst (.pointer (some ⟨B1, 0, none⟩))).put oB.dst (.pointer (some ⟨B2, 0, none⟩))) w' ∧
      wpOp P ops Q (k + 3) (fun a' w' => wpOp P ops Q k (fun b w'' => wpOp P ops Q (k + 4) (fun a'' w'' => Q .normal a'' w'') b w'') a' w') ((a'.put oA.dst (.pointer (some ⟨B1, 0, none⟩))).put oB.dst (.pointer (some ⟨B2, 0, none⟩))) w') (ops.toList.take k) a) :
    (Code.region id ops true).wpIn (Fence.wide.inRound lp) n P Q a w := by
  subst hL0
  have hlen : (ops.toList.take k).length = k := by rw [List.length_take, Array.length_toList, hsz]; omega
  refine wpIn_region_any hm (anyIn_of hd hQ _ _ _ _ ?_)
  refine any_of_A (w0 := w) (A := fun i => i == k + 1 || i == k + 2) (tl := k + 3) (Z := Z) (T := T) ?_ _ _ [] _ _ ⟨(Below.refl w.heap.size w).drew, fun p hp => by cases hp⟩ ?_
  · intro i o hi ho
    simp only [Bool.or_eq_true, beq_iff_eq] at hi
    rcases hi with rfl | rfl
    · rw [hoA] at ho; cases ho; exact ⟨hgA, hrA⟩
    · rw [hoB] at ho; cases ho; exact ⟨hgB, hrB⟩
  · have key := anyA_lex (P := P) (Q := Q) (w0 := w) (A := fun i => i == k + 1 || i == k + 2) (tl := k + 3) (Z := Z) (T := T) (md := .any) hs 5 (ops.toList.take k) 0 (Array.replicate ops.size false) a
      (fun j hj => by rw [hlen] at hj; rw [List.getElem?_take_of_lt hj]; simp) (by rw [hlen]; exact hlex)
    rw [hlen, ← hsz, ← hL] at key
    refine key ?_
    have mono : ∀ (l : List Oper) (a : Act) (F G : Act → Prop), (∀ a, F a → G a) → wpQA P ops w F l a → wpQA P ops w G l a := by
      intro l
      induction l with
      | nil => intro a F G hFG hF; exact hFG _ hF
      | cons o r ih => intro a F G hFG hF; obtain ⟨v, h1, h2⟩ := hF; exact ⟨v, h1, ih _ F G hFG h2⟩
    refine mono _ _ _ _ (fun a' ha' => ?_) h
    exact anyA_end5 k oC oA oB oS v _ a' hoC hoA hoB hoS q0 qC qA qB qCA qCB qAB qCAB qABS qCABS qall (by simp) (by simp) (by simp) dAB dCA dCB (fun cs b => Region.noSelect_spec hs k oC cs b hoC) lA lB ha'.1
      (fun B1 B2 w' g1 g2 g3 g4 g5 g6 => (ha'.2 B1 B2 w' g1 g2 g3 g4 g5 g6).1) (fun B1 B2 w' g1 g2 g3 g4 g5 g6 => (ha'.2 B1 B2 w' g1 g2 g3 g4 g5 g6).2)
end
end Go.Proofs.YtgjleeamhkolhaaGreatDoor

namespace Go.Proofs.YtgjleeamhkolhaaGreatDoor
open Go.RowKit

section
variable {P : Program} {ops : Array Oper} {md : Region.Mode} {Q : Exit → Act → World → Prop} {C : List Nat → World → Prop} {A : Nat → Bool} {tl : Nat}

def YG (P : Program) (ops : Array Oper) (C : List Nat → World → Prop) (o : Oper) (v : Value) (a : Act) : Prop := ∀ σ, YieldsIn P ops (C σ) o v a
def EG (P : Program) (ops : Array Oper) (C : List Nat → World → Prop) (i : Nat) (σ : List Nat) (o : Oper) (a : Act) : Prop :=
  Region.wanted o (yielded ops a.tmps) = true ∧ ∀ w, C σ w → ∃ w', (execOp a.eval o).run P w = .ok .skip w' ∧ C (i :: σ) w'

def anyG (P : Program) (md : Region.Mode) (ops : Array Oper) (Q : Exit → Act → World → Prop) (C : List Nat → World → Prop) (A : Nat → Bool) (tl : Nat) : Nat → Array Bool → List Nat → Act → Prop
  | 0, _, _, _ => False
  | fuel + 1, listed, σ, a => Region.ready md ops listed ≠ [] ∧ ∀ i ∈ Region.ready md ops listed,
      (i = tl → ∀ w, C σ w → wpOp P ops Q i (wpAny P md ops Q fuel (listed.setIfInBounds i true)) a w) ∧
      (i ≠ tl → A i = true → ∃ o, ops[i]? = some o ∧ EG P ops C i σ o a ∧ anyG P md ops Q C A tl fuel (listed.setIfInBounds i true) (i :: σ) (a.put o.dst undef)) ∧
      (i ≠ tl → A i = false → ∃ o v, ops[i]? = some o ∧ YG P ops C o v a ∧ anyG P md ops Q C A tl fuel (listed.setIfInBounds i true) σ (a.put o.dst v))

theorem any_of_G : ∀ (fuel : Nat) (listed : Array Bool) (σ : List Nat) (a : Act) (w : World), C σ w → anyG P md ops Q C A tl fuel listed σ a → wpAny P md ops Q fuel listed a w
  | 0, _, _, _, _, _, h => h.elim
  | fuel + 1, listed, σ, a, w, hw, h => ⟨fun e => absurd e h.1, fun i hi => by
      obtain ⟨h1, h2, h3⟩ := h.2 i hi
      by_cases e : i = tl
      · exact h1 e w hw
      · cases ha : A i with
        | true =>
          obtain ⟨o, ho, ⟨hg, hr⟩, hk⟩ := h2 e ha
          obtain ⟨w', hrun, hC⟩ := hr w hw
          refine wpOp_step ho (fun K' hK => ?_)
          rw [if_pos hg]
          unfold Oper.wp
          rw [hrun]
          exact hK _ _ (any_of_G fuel _ _ _ _ hC hk)
        | false =>
          obtain ⟨o, v, ho, hy, hk⟩ := h3 e ha
          exact wpOp_of_qOp (C := C σ) hw (fun a' w' hw' hk' => any_of_G fuel _ σ a' w' hw' hk') ((hy σ).qOp ho hk)⟩

theorem YG.put {o oj : Oper} {v u : Value} {a : Act} (h : YG P ops C o v a) (hs : ∀ cs b, o.op ≠ .select cs b) (hap : ∀ d, oj.dst = some d → d ∉ o.looksAt ops) : YG P ops C o v (a.put oj.dst u) := fun σ =>
  (h σ).of_same (execOp_put o hs a oj.dst u hap) (wanted_put o a oj.dst u hap)
theorem YG.unput {o oi : Oper} {v u : Value} {a : Act} (h : YG P ops C o v (a.put oi.dst u)) (hs : ∀ cs b, o.op ≠ .select cs b) (hap : ∀ d, oi.dst = some d → d ∉ o.looksAt ops) : YG P ops C o v a := fun σ =>
  (h σ).of_same (execOp_put o hs a oi.dst u hap).symm (wanted_put o a oi.dst u hap).symm
theorem EG.unput {i : Nat} {σ : List Nat} {o oi : Oper} {u : Value} {a : Act} (h : EG P ops C i σ o (a.put oi.dst u)) (hs : ∀ cs b, o.op ≠ .select cs b) (hap : ∀ d, oi.dst = some d → d ∉ o.looksAt ops) : EG P ops C i σ o a := by
  unfold EG at *
  rw [wanted_put o a oi.dst u hap, execOp_put o hs a oi.dst u hap] at h
  exact h

theorem anyG_take {i x : Nat} {oi : Oper} {v : Value} (hi : ops[i]? = some oi) (hia : A i = false) (hit : i ≠ tl) (hsel : ∀ (j : Nat) (o : Oper) cs b, ops[j]? = some o → o.op ≠ .select cs b)
    (hx : x = i ∨ ∃ ox, ops[x]? = some ox ∧ ∃ e ∈ ox.after, Region.binds md e = true ∧ e.on = i)
    (hwait : ∀ oL, ops[tl]? = some oL → ∃ e ∈ oL.after, Region.binds md e = true ∧ e.on = x) :
    ∀ (fuel : Nat) (listed : Array Bool) (σ : List Nat) (a : Act), listed.getD x true = false →
      (∀ j oj, ops[j]? = some oj → j ≠ i → listed.getD j true = false → (∀ e ∈ oj.after, Region.binds md e = true → e.on ≠ i) → oi.apart ops oj = true) →
      i ∈ Region.ready md ops listed → YG P ops C oi v a →
      anyG P md ops Q C A tl fuel (listed.setIfInBounds i true) σ (a.put oi.dst v) → anyG P md ops Q C A tl (fuel + 1) listed σ a := by
  intro fuel
  induction fuel with
  | zero => intro _ _ _ _ _ _ _ H; exact H.elim
  | succ fuel ih =>
    intro listed σ a hxu hfree hr hy H
    have hun : listed.getD i true = false := (mem_ready.1 hr).1
    have clash : listed.getD i false = true → False := fun h1 => by
      rcases Nat.lt_or_ge i listed.size with h' | h'
      · simp [h'] at hun h1; rw [hun] at h1; cases h1
      · simp [Array.getElem?_eq_none h'] at h1
    have clashx : listed.getD x false = true → False := fun h1 => by
      rcases Nat.lt_or_ge x listed.size with h' | h'
      · simp [h'] at hxu h1; rw [hxu] at h1; cases h1
      · simp [Array.getElem?_eq_none h'] at h1
    refine ⟨fun e => (by rw [e] at hr; cases hr), fun j hj => ?_⟩
    obtain ⟨hjun, oj, hoj, hall⟩ := mem_ready.1 hj
    have hjl : j ≠ tl := fun e => by
      subst e
      obtain ⟨y, hy', hb, ho⟩ := hwait oj hoj
      exact clashx (by have := hall y hy' hb; rwa [ho] at this)
    refine ⟨fun e => absurd e hjl, ?_⟩
    by_cases hji : j = i
    · subst hji
      exact ⟨fun _ ha => absurd (hia.symm.trans ha) (by simp), fun _ _ => ⟨oi, v, hi, hy, H⟩⟩
    · have hnot : ∀ e ∈ oj.after, Region.binds md e = true → e.on ≠ i := fun e he hb heq => clash (by have := hall e he hb; rwa [heq] at this)
      obtain ⟨a1, a2, a3⟩ := Oper.apart_spec (hfree j oj hoj hji hjun hnot)
      have hjx : j ≠ x := fun e => by
        rcases hx with rfl | ⟨ox, hox, y, hy', hb, ho⟩
        · exact hji e
        · subst e
          rw [hoj] at hox
          cases hox
          exact hnot y hy' hb ho
      obtain ⟨_, h2, h3⟩ := H.2 j (ready_mono hj hji)
      have hxu' : (listed.setIfInBounds j true).getD x true = false := by rw [getD_set_ne true hjx]; exact hxu
      have hfree' : ∀ k ok, ops[k]? = some ok → k ≠ i → (listed.setIfInBounds j true).getD k true = false → (∀ e ∈ ok.after, Region.binds md e = true → e.on ≠ i) → oi.apart ops ok = true := fun k ok hk hki hku hkn => hfree k ok hk hki (by
        by_cases hjk : j = k
        · subst hjk; exact hjun
        · rw [getD_set_ne true hjk] at hku; exact hku) hkn
      refine ⟨fun _ ha => ?_, fun _ ha => ?_⟩
      · obtain ⟨o, ho, heg, hk⟩ := h2 hjl ha
        rw [hoj] at ho
        cases ho
        rw [Array.setIfInBounds_comm _ _ (Ne.symm hji), Act.put_comm a v _ a2] at hk
        exact ⟨oj, hoj, heg.unput (fun cs b => hsel j oj cs b hoj) a1, ih _ _ _ hxu' hfree' (ready_mono hr (Ne.symm hji)) (hy.put (fun cs b => hsel i oi cs b hi) a3) hk⟩
      · obtain ⟨o, u, ho, hyj, hk⟩ := h3 hjl ha
        rw [hoj] at ho
        cases ho
        rw [Array.setIfInBounds_comm _ _ (Ne.symm hji), Act.put_comm a v _ a2] at hk
        exact ⟨oj, u, hoj, hyj.unput (fun cs b => hsel j oj cs b hoj) a1, ih _ _ _ hxu' hfree' (ready_mono hr (Ne.symm hji)) (hy.put (fun cs b => hsel i oi cs b hi) a3) hk⟩

def wpQG (P : Program) (ops : Array Oper) (C : List Nat → World → Prop) (Fin : Act → Prop) : List Oper → Act → Prop
  | [], a => Fin a
  | o :: rest, a => ∃ v, YG P ops C o v a ∧ wpQG P ops C Fin rest (a.put o.dst v)

theorem anyG_lex (hs : Region.noSelect ops = true) (m : Nat) : ∀ (l : List Oper) (k : Nat) (listed : Array Bool) (a : Act), (∀ j, j < l.length → l[j]? = ops[k + j]?) → lexA md ops A tl l.length k listed = true →
    wpQG P ops C (anyG P md ops Q C A tl m (listTo listed k l.length) []) l a → anyG P md ops Q C A tl (l.length + m) listed [] a
  | [], _, _, a, _, _, h => by simpa [wpQG, listTo] using h
  | o :: l, k, listed, a, hl, hB, h => by
    have h0 : ops[k]? = some o := by simpa using (hl 0 (by simp)).symm
    simp only [List.length_cons, lexA, Bool.and_eq_true] at hB
    obtain ⟨⟨⟨⟨⟨hr, hf⟩, hk1⟩, hk2⟩, hwt⟩, hB'⟩ := hB
    obtain ⟨x, hxw⟩ := Option.isSome_iff_exists.1 hwt
    have hxp := List.find?_some hxw
    simp only [Bool.and_eq_true, Bool.not_eq_true'] at hxp
    obtain ⟨⟨hx1, hx2⟩, hx3⟩ := hxp
    obtain ⟨v, hy, hK⟩ := h
    have ih := anyG_lex hs m l (k + 1) (listed.setIfInBounds k true) (a.put o.dst v) (fun j hj => by have := hl (j + 1) (by simp; omega); simpa [Nat.add_assoc, Nat.add_comm 1 j] using this) hB' hK
    have e : (o :: l).length + m = (l.length + m) + 1 := by simp; omega
    rw [e]
    refine anyG_take (x := x) h0 (by simpa using hk1) (by simpa using hk2) (Region.noSelect_spec hs) ?_ (fun oL hoL => ?_) (l.length + m) listed [] a hx1 (Region.free_spec h0 hf) (by simpa using hr) hy ih
    · simp only [Bool.or_eq_true, beq_iff_eq] at hx2
      rcases hx2 with h1 | h1
      · exact Or.inl h1
      · right
        cases hox : ops[x]? with
        | none => rw [hox] at h1; cases h1
        | some ox =>
          rw [hox] at h1
          simp only [List.any_eq_true, Bool.and_eq_true, beq_iff_eq] at h1
          obtain ⟨e, he, h2, h3⟩ := h1
          exact ⟨ox, rfl, e, by simpa using he, h2, h3⟩
    · rw [hoL] at hx3
      simp only [List.any_eq_true, Bool.and_eq_true, beq_iff_eq] at hx3
      obtain ⟨e, he, h2, h3⟩ := hx3
      exact ⟨e, by simpa using he, h2, h3⟩

def two (C0 C1 : World → Prop) : List Nat → World → Prop
  | [] => C0
  | _ :: _ => C1

theorem YG_of {C0 C1 : World → Prop} {o : Oper} {v : Value} {a : Act} (hg : o.guard = none) (h : ∀ W, C0 W ∨ C1 W → (execOp a.eval o).run P W = .ok (.value v) W) : YG P ops (two C0 C1) o v a := fun σ =>
  .inl ⟨by simp [Region.wanted, hg], fun W hW => by
    unfold Oper.quietAt
    rw [h W (by cases σ with | nil => exact .inl hW | cons _ _ => exact .inr hW)]
    exact ⟨rfl, rfl⟩⟩
theorem wpQG_cons {F : Act → Prop} {o : Oper} {rest : List Oper} {a : Act} (v : Value) (h : YG P ops C o v a) (hr : wpQG P ops C F rest (a.put o.dst v)) : wpQG P ops C F (o :: rest) a := ⟨v, h, hr⟩
theorem wpQG_nil {F : Act → Prop} {a : Act} (h : F a) : wpQG P ops C F [] a := h
theorem wpQG_mono : ∀ (l : List Oper) (a : Act) (F G : Act → Prop), (∀ a, F a → G a) → wpQG P ops C F l a → wpQG P ops C G l a
  | [], _, _, _, hFG, hF => hFG _ hF
  | _ :: r, _, F, G, hFG, ⟨v, h1, h2⟩ => ⟨v, h1, wpQG_mono r _ F G hFG h2⟩

theorem wpIn_region_stores {id n lp : Nat} (k : Nat) (oS oI : Oper) (v : Value) (C0 C1 : World → Prop) {a : Act} {w : World} (hm : P.follows .mixedOrders = true) (hs : Region.noSelect ops = true) (hd : noDefer ops = true) (hQ : ¬ LetsOut Q) (hsz : ops.size = k + 3)
    (hoS : ops[k]? = some oS) (hoI : ops[k + 1]? = some oI) (hgS : oS.guard = none)
    (L0 : Array Bool) (hL0 : L0 = Array.replicate ops.size false) (L : Array Bool) (hL : L = listTo L0 0 k)
    (hlex : lexA .any ops (fun i => i == k) (k + 2) k 0 L0 = true)
    (q0 : Region.ready .any ops L = [k]) (q1 : Region.ready .any ops (L.setIfInBounds k true) = [k + 1])
    (q2 : Region.ready .any ops ((L.setIfInBounds k true).setIfInBounds (k + 1) true) = [k + 2])
    (q3 : Region.ready .any ops (((L.setIfInBounds k true).setIfInBounds (k + 1) true).setIfInBounds (k + 2) true) = [])
    (hC : C0 w.drew)
    (h : wpQG P ops (two C0 C1) (fun a' => (∀ w', C0 w' → ∃ w'', (execOp a'.eval oS).run P w' = .ok .skip w'' ∧ C1 w'') ∧ YG P ops (two C0 C1) oI v (a'.put oS.dst undef) ∧
      ∀ w', C1 w' → wpOp P ops Q (k + 2) (fun a'' w'' => Q .normal a'' w'') ((a'.put oS.dst undef).put oI.dst v) w') (ops.toList.take k) a) :
    (Code.region id ops true).wpIn (Fence.wide.inRound lp) n P Q a w := by
  subst hL0
  have hlen : (ops.toList.take k).length = k := by rw [List.length_take, Array.length_toList, hsz]; omega
  refine wpIn_region_any hm (anyIn_of hd hQ _ _ _ _ ?_)
  refine any_of_G (C := two C0 C1) (A := fun i => i == k) (tl := k + 2) _ _ [] _ _ hC ?_
  have key := anyG_lex (P := P) (Q := Q) (C := two C0 C1) (A := fun i => i == k) (tl := k + 2) (md := .any) hs 3 (ops.toList.take k) 0 (Array.replicate ops.size false) a
    (fun j hj => by rw [hlen] at hj; rw [List.getElem?_take_of_lt hj]; simp) (by rw [hlen]; exact hlex)
  rw [hlen, ← hsz, ← hL] at key
  refine key (wpQG_mono _ _ _ _ (fun a' ha' => ?_) h)
  obtain ⟨h1, h2, h3⟩ := ha'
  refine ⟨by rw [q0]; simp, fun i hi => ?_⟩
  rw [q0] at hi
  obtain rfl : i = k := by simpa using hi
  refine ⟨fun e => by omega, fun _ _ => ⟨oS, hoS, ⟨by simp [Region.wanted, hgS], h1⟩, ?_⟩, fun _ ha => by simp at ha⟩
  refine ⟨by rw [q1]; simp, fun j hj => ?_⟩
  rw [q1] at hj
  obtain rfl : j = i + 1 := by simpa using hj
  refine ⟨fun e => by omega, fun _ ha => by simp at ha, fun _ _ => ⟨oI, v, hoI, h2, ?_⟩⟩
  refine ⟨by rw [q2]; simp, fun m hm => ?_⟩
  rw [q2] at hm
  obtain rfl : m = i + 2 := by simpa using hm
  exact ⟨fun _ w' hw' => wpOp_mono (fun a'' w'' h'' => ⟨q3, h''⟩) (h3 w' hw'), fun e => absurd rfl e, fun e => absurd rfl e⟩
end
end Go.Proofs.YtgjleeamhkolhaaGreatDoor

namespace Go.Proofs.YtgjleeamhkolhaaGreatDoor
open Go.RowKit

theorem grown_set (W : World) (p : Addr) (v : Value) : W.grownBy (W.setCell p v) (some p.block) :=
  ⟨rfl, rfl, rfl, by simp [World.setCell], fun k _ hk => heap_setCell_other W p k v (fun e => hk (by rw [e]))⟩

theorem grown_over2 {a b c : World} {row : Option Nat} (h : a.grownBy b row) (k : b.grownBy c row) : a.grownBy c row :=
  ⟨k.os.trans h.os, k.tape.trans h.tape, k.output.trans h.output, Nat.le_trans h.size k.size, fun i hi hne => (k.block i (Nat.lt_of_lt_of_le hi h.size) hne).trans (h.block i hi hne)⟩

end Go.Proofs.YtgjleeamhkolhaaGreatDoor

namespace Go.Proofs.YtgjleeamhkolhaaGreatDoor
open Go.RowKit Go.Shelf
attribute [local go_sem] Oper.semAt_some

def BlkW (W : World) (B : Nat) (C : Array Value) (t : TypeId) : Prop := W.heap[B]? = some (.cells C t (0, 0))
theorem BlkW.lt {W : World} {B : Nat} {C : Array Value} {t : TypeId} (h : BlkW W B C t) : B < W.heap.size := (Array.getElem?_eq_some_iff.1 h).1
theorem blk_own {β : Type} (B : Nat) (C : Array Value) (t : TypeId) : Own (fun (_ : β) W => BlkW W B C t) := fun _ X Y row hs hg hr =>
  (hg.block B hs.lt (fun e' => by obtain ⟨o, ho, hc⟩ := hr B e'.symm; rw [show X.heap[B]? = _ from hs] at ho; cases ho; cases hc)).trans hs
theorem owns_own {β : Type} (base e size n : Nat) (v : Value) (f : β → List Value) : Own (fun s W => W.ownsRow base e size v n (f s)) := fun s X Y row hs hg hr => by
  refine hs.kept hg ?_
  cases hv : v.ownBlock with
  | none => exact Or.inl rfl
  | some g =>
    refine Or.inr (fun e' => ?_)
    obtain ⟨o, ho, hc⟩ := hr g e'.symm
    rcases hs.2 with ⟨rfl, _⟩ | ⟨g', cap, cur, rfl, _, hh, _⟩
    · cases hv
    · cases hv
      rw [hh] at ho
      cases ho
      cases hc
theorem grown_own {β : Type} {B g : Nat} {w : World} (hB : w.heap.size ≤ B) : OwnFrom B (fun (_ : β) W => w.grownBy W (some g)) := fun _ X Y row hs hg hr =>
  ⟨hg.os.trans hs.os, hg.tape.trans hs.tape, hg.output.trans hs.output, Nat.le_trans hs.size hg.size, fun k hk hne =>
    (hg.block k (Nat.lt_of_lt_of_le hk hs.size) (fun e => by have := (hr k e.symm).1; omega)).trans (hs.block k hk hne)⟩

theorem some_of_get' {α : Type} {r : Option α} {xs : List α} {n i : Nat} (h : r = xs[i]?) (hl : xs.length = n) (hi : i < n) : ∃ y, r = some y :=
  ⟨_, h.trans (List.getElem?_eq_getElem (by omega))⟩
theorem grown_below {w W W' : World} {g : Nat} (h : w.grownBy W (some g)) (k : Below W.heap.size W W') : w.grownBy W' (some g) :=
  ⟨k.os.trans h.os, k.tape.trans h.tape, k.output.trans h.output, Nat.le_trans h.size k.size, fun i hi hne => (k.block i (Nat.lt_of_lt_of_le hi h.size)).trans (h.block i hi hne)⟩
theorem grown_over {w W W' : World} {g : Nat} {row : Option Nat} (h : w.grownBy W (some g)) (k : W.grownBy W' row) (hr : ∀ r, row = some r → w.heap.size ≤ r) : w.grownBy W' (some g) :=
  ⟨k.os.trans h.os, k.tape.trans h.tape, k.output.trans h.output, Nat.le_trans h.size k.size, fun i hi hne =>
    (k.block i (Nat.lt_of_lt_of_le hi h.size) (fun e => by have := hr i e.symm; omega)).trans (h.block i hi hne)⟩

set_option maxRecDepth 100000 in
set_option maxHeartbeats 4000000 in
theorem walk_any (d : Bool) (gf tf : Nat) (q s : Int) (l : List Stp) (g scap base Bs : Nat) (r : List (Int × Int)) (S : List (El l) → Prop) (Sp : List (El l) → Prop) (seqn : List (El l)) (w : World)
    (_hq : 1 ≤ q ∧ q ≤ 50) (hs0 : 1 ≤ s ∧ s ≤ 50) (hl : l.length ≤ 1048576) (hr : GoodRow l.length r)
    (hown : w.ownsRow base 152 2 (.slice (some ⟨g, 0, none⟩) (l.length + 1) scap) (l.length + 1) (spanCells r))
    (hseq : ∀ W, Below w.heap.size w W → SeqStopsK Fence.wide 3 Tryz.prog gf #[.pointer (some ⟨Bs, 0, none⟩)] encA (KeepX w.heap.size g) S Sp l.length W)
    (heg : ∀ args w, (callFunc gf args).run Tryz.prog w = .ok (.enter gf args) w) (hS : ∀ xs, S xs → xs = seqn) (hSp : ∀ xs, Sp xs → ∃ post, seqn = xs ++ post)
    (htf : ∀ args w, (callFunc tf args).run Tryz.prog w = .ok (.enter tf args) w)
    (hT : ∀ (mo : Int) (e lf : Int × Int) (w : World), (1 ≤ mo ∧ mo ≤ 10000) → (0 ≤ e.1 ∧ e.1 ≤ e.2 ∧ e.2 ≤ 10000) → (0 ≤ lf.1 ∧ lf.1 ≤ lf.2 ∧ lf.2 ≤ 10000) →
      Calls Tryz.prog tf #[.agg #[.int .i64 e.1, .int .i64 e.2], .agg #[.int .i64 lf.1, .int .i64 lf.2], .agg #[.int .i64 q, .int .i64 mo]] w
        fun x w' => x = .returned (.tuple #[.agg #[.int .i64 (tightB d q mo e lf).1.1, .int .i64 (tightB d q mo e lf).1.2], .agg #[.int .i64 (tightB d q mo e lf).2.1, .int .i64 (tightB d q mo e lf).2.2]]) ∧ Below w.heap.size w w') :
    Calls Tryz.prog 123 #[.agg #[.int .i64 q, .int .i64 s], .slice (some ⟨g, 0, none⟩) (l.length + 1) scap, .func (.func gf) #[] #[.pointer (some ⟨Bs, 0, none⟩)], .func (.func tf) #[] #[]] w
      fun e w' => e = .returned (.bool (foldW d q s r seqn).2) ∧ w.grownBy w' (some g) ∧ ((foldW d q s r seqn).2 = true → w'.ownsRow base 152 2 (.slice (some ⟨g, 0, none⟩) (l.length + 1) scap) (l.length + 1) (spanCells (foldW d q s r seqn).1)) := by
  have hgw : g < w.heap.size := (hown.lt g rfl).2
  refine (callsIn_wide (n := 4)).1 ?_
  refine callsIn_of_wp_marks Tryz.func123 rfl trivial ?_ rfl
  simp only [Tryz.ntmps123, List.size_toArray, List.length_cons, List.length_nil, Nat.reduceAdd, Nat.reduceSub, Array.replicate_succ, Array.replicate_zero, List.push_toArray, List.append_toArray, List.nil_append, List.cons_append]
  gi_wp2
  obtain ⟨W0, hW0, bK, bS, bT, bR, hB0, hsz⟩ : ∃ W0, ((((w.alloc (.cells #[.int .i64 q, .int .i64 s] 35)).alloc (.cells #[.slice (some ⟨g, 0, none⟩) (l.length + 1) scap] 119)).alloc (.cells #[.func (.func tf) #[] #[]] 213)).alloc (.cells #[.bool false] 4)) = W0 ∧
      BlkW W0 w.heap.size #[.int .i64 q, .int .i64 s] 35 ∧ Boxed W0 (w.heap.size + 1) 119 (.slice (some ⟨g, 0, none⟩) (l.length + 1) scap) ∧ Boxed W0 (w.heap.size + 1 + 1) 213 (.func (.func tf) #[] #[]) ∧ Boxed W0 (w.heap.size + 1 + 1 + 1) 4 (.bool false) ∧
      Below w.heap.size w W0 ∧ W0.heap.size = w.heap.size + 4 := by
    refine ⟨_, rfl, ?_, ?_, ?_, ?_, ?_, by simp⟩
    · have h1 : BlkW (w.alloc (.cells #[.int .i64 q, .int .i64 s] 35)) w.heap.size #[.int .i64 q, .int .i64 s] 35 := World.alloc_heap_new w _
      exact (Below.heap_alloc _ _ _ (by simp; omega)).trans ((Below.heap_alloc _ _ _ (by simp; omega)).trans ((Below.heap_alloc _ _ _ (by simp)).trans h1))
    · have h1 := ((Boxed.new (w.alloc (.cells #[.int .i64 q, .int .i64 s] 35)) 119 (.slice (some ⟨g, 0, none⟩) (l.length + 1) scap)).alloc (.cells #[.func (.func tf) #[] #[]] 213)).alloc (.cells #[.bool false] 4)
      simpa using h1
    · have h1 := (Boxed.new ((w.alloc (.cells #[.int .i64 q, .int .i64 s] 35)).alloc (.cells #[.slice (some ⟨g, 0, none⟩) (l.length + 1) scap] 119)) 213 (.func (.func tf) #[] #[])).alloc (.cells #[.bool false] 4)
      simpa using h1
    · have h1 := Boxed.new (((w.alloc (.cells #[.int .i64 q, .int .i64 s] 35)).alloc (.cells #[.slice (some ⟨g, 0, none⟩) (l.length + 1) scap] 119)).alloc (.cells #[.func (.func tf) #[] #[]] 213)) 4 (.bool false)
      simpa using h1
    · exact (((((Below.refl _ w).alloc (Nat.le_refl _) _).alloc (by simp) _).alloc (by simp; omega) _).alloc (by simp; omega) _)
  rw [hW0]
  have hgr0 : w.grownBy W0 (some g) := ⟨hB0.os, hB0.tape, hB0.output, hB0.size, fun k hk _ => hB0.block k hk⟩
  have hown0 := owns_below hown hB0
  have hsq := hseq W0 hB0
  clear hW0 hseq
  have hI : OwnFrom W0.heap.size (fun (pre : List (El l)) W => (((((BlkW W w.heap.size #[.int .i64 q, .int .i64 s] 35 ∧ Boxed W (w.heap.size + 1) 119 (.slice (some ⟨g, 0, none⟩) (l.length + 1) scap)) ∧ Boxed W (w.heap.size + 1 + 1) 213 (.func (.func tf) #[] #[])) ∧ Boxed W (w.heap.size + 1 + 1 + 1) 4 (.bool false)) ∧
      W.ownsRow base 152 2 (.slice (some ⟨g, 0, none⟩) (l.length + 1) scap) (l.length + 1) (spanCells (foldW d q s r pre).1)) ∧ ((foldW d q s r pre).2 = true ∧ GoodRow l.length (foldW d q s r pre).1)) ∧ w.grownBy W (some g)) :=
    OwnFrom.and (OwnFrom.and (OwnFrom.and (OwnFrom.and (OwnFrom.and (OwnFrom.and (Own.from (blk_own _ _ _) _) (Own.from (boxed_own _ _ _) _)) (Own.from (boxed_own _ _ _) _)) (Own.from (boxed_own _ _ _) _)) (Own.from (owns_own _ _ _ _ _ _) _)) (ownFrom_pure _ _)) (grown_own hB0.size)
  refine wpIn_rangeFunc_ownH rfl (by omega) (gf := gf) (lb := #[.pointer (some ⟨Bs, 0, none⟩)]) rfl trivial heg hsq KeepX.trans (KeepX.putObj hB0.size) (Below.refl _ _) (fun _ => rfl)
    (fun (pre : List (El l)) W => (((((BlkW W w.heap.size #[.int .i64 q, .int .i64 s] 35 ∧ Boxed W (w.heap.size + 1) 119 (.slice (some ⟨g, 0, none⟩) (l.length + 1) scap)) ∧ Boxed W (w.heap.size + 1 + 1) 213 (.func (.func tf) #[] #[])) ∧ Boxed W (w.heap.size + 1 + 1 + 1) 4 (.bool false)) ∧
      W.ownsRow base 152 2 (.slice (some ⟨g, 0, none⟩) (l.length + 1) scap) (l.length + 1) (spanCells (foldW d q s r pre).1)) ∧ ((foldW d q s r pre).2 = true ∧ GoodRow l.length (foldW d q s r pre).1)) ∧ w.grownBy W (some g))
    (fun c pre W => ((c = .ret ∧ (foldW d q s r pre).2 = false) ∧ Boxed W (w.heap.size + 1 + 1 + 1) 4 (.bool false)) ∧ w.grownBy W (some g))
    hI
    (fun c => OwnFrom.and (OwnFrom.and (ownFrom_pure _ _) (Own.from (boxed_own _ _ _) _)) (grown_own hB0.size))
    ⟨⟨⟨⟨⟨⟨bK, bS⟩, bT⟩, bR⟩, hown0⟩, ⟨rfl, hr⟩⟩, hgr0⟩
    (fun x a' W => ∃ Bx, w.heap.size + 3 < Bx ∧ BoxS W Bx x.1.2 ∧ a' = { tmps := #[.agg #[.int .i64 q, .int .i64 s], .slice (some ⟨g, 0, none⟩) (l.length + 1) scap, .func (.func gf) #[] #[.pointer (some ⟨Bs, 0, none⟩)], .func (.func tf) #[] #[], .pointer (some ⟨w.heap.size, 0, none⟩), .pointer (some ⟨w.heap.size + 1, 0, none⟩), undef, .pointer (some ⟨w.heap.size + 1 + 1, 0, none⟩), .pointer (some ⟨w.heap.size + 1 + 1 + 1, 0, none⟩), .int .i64 (x.1.1 : Int), .pointer (some ⟨Bx, 0, none⟩), undef, undef, undef, undef, .func (.func gf) #[] #[.pointer (some ⟨Bs, 0, none⟩)], .int .i64 (x.1.1 : Int), x.1.2.val, undef, undef, undef, undef, undef, undef, undef, undef, undef, undef, undef, undef, undef, undef, undef, undef, undef, undef, undef, undef, undef, undef, undef, undef, undef, undef, undef, undef, undef, undef, undef, undef, undef, undef, undef, undef, undef, undef], defers := [] })
    (fun x a' _ X Y row hs' hg hr => by obtain ⟨Bx, h1, h2, h3⟩ := hs'; exact ⟨Bx, h1, h2.own hg (fun r e => (hr r e).2), h3⟩)
    ?assign ?body ?done ?stop
  case assign =>
    rintro lp pre x W K hI1 hK
    have hW := hI1.1.1.1.2.lt
    gi_wp2
    exact hK _ _ ((KeepsOthers.alloc _ _).from _) ⟨by simp, fun i hi _ => Below.heap_alloc W _ i (by omega)⟩ (hI.alloc _ hI1) ⟨W.heap.size, by omega, BoxS.new W x.1.2, rfl⟩
  case body =>
    rintro lp pre x a' W _ _ ⟨⟨⟨⟨⟨⟨bK1, bS1⟩, bT1⟩, bR1⟩, ho1⟩, ⟨hok, hgd⟩⟩, hg1⟩ ⟨Bx, hBx, bX, rfl⟩ hlt
    obtain ⟨⟨place, t⟩, hx⟩ := x
    have hpl : place < l.length := (List.getElem?_eq_some_iff.1 hx).1
    obtain ⟨c0, c1, c2, c3, c4, c5, c6⟩ := bX.seven
    have hW := bR1.lt
    have kc0 : W.cell? ⟨w.heap.size, 0, none⟩ = some (.int .i64 q) := by simp [World.cell?, show W.heap[w.heap.size]? = _ from bK1]
    have kc1 : W.cell? ⟨w.heap.size, 1, none⟩ = some (.int .i64 s) := by simp [World.cell?, show W.heap[w.heap.size]? = _ from bK1]
    obtain ⟨mo, hmo⟩ : ∃ mo, stayMost s t = mo := ⟨_, rfl⟩
    have hmr : 1 ≤ mo ∧ mo ≤ 10000 := by rw [← hmo]; unfold stayMost; split <;> omega
    have SV : ∀ W', Calls Tryz.prog 145 #[t.val, .agg #[.int .i64 q, .int .i64 s]] W' fun e w' => e = .returned (.tuple #[.int .i64 q, .int .i64 mo]) ∧ Below W'.heap.size W' w' := fun W' => by rw [← hmo]; exact stay_any _ _ _ _ _ _ _ _ _ _
    gi_wp2_with (refine ⟨trivial, ?_⟩; gi_at_call 145; refine (CallsIn.inRound lp (callsIn_wide.2 (SV _))).mono ?_; rintro e w2 ⟨rfl, hb2⟩)
    clear SV c0 c1 c2 c3 c4 c5 c6 kc0 kc1
    have bS2 := boxed_below bS1 hb2
    have bT2 := boxed_below bT1 hb2
    have bR2 := boxed_below bR1 hb2
    have ho2 := owns_below ho1 hb2
    have bK2 : BlkW w2 w.heap.size #[.int .i64 q, .int .i64 s] 35 := (hb2.block _ bK1.lt).trans bK1
    have sz2 := hb2.size
    obtain ⟨R, hR⟩ : ∃ R, (foldW d q s r pre).1 = R := ⟨_, rfl⟩
    rw [hR] at ho2 hgd
    obtain ⟨e, he⟩ : ∃ e, R.getD place (0, 0) = e := ⟨_, rfl⟩
    obtain ⟨lf, hlf⟩ : ∃ lf, R.getD (place + 1) (0, 0) = lf := ⟨_, rfl⟩
    have ge := hgd.getD (show place ≤ l.length by omega)
    have gl := hgd.getD (show place + 1 ≤ l.length by omega)
    rw [he] at ge
    rw [hlf] at gl
    have re := hgd.at_ _ _ ge
    have rl := hgd.at_ _ _ gl
    have x0 := (ho2.cellAt (place * 2) (by omega)).trans (spanCells_get _ _ _ ge).1
    have x1 := (ho2.cellAt (place * 2 + 1) (by omega)).trans (spanCells_get _ _ _ ge).2
    have y0 := (ho2.cellAt ((place + 1) * 2) (by omega)).trans (spanCells_get _ _ _ gl).1
    have y1 := (ho2.cellAt ((place + 1) * 2 + 1) (by omega)).trans (spanCells_get _ _ _ gl).2
    have TR : Hid (tightR d q s R (place, t) = tightB d q mo e lf) := by show _ = _; unfold tightR; rw [he, hlf, hmo]
    have hTc := fun W' => hT mo e lf W' hmr re rl
    obtain ⟨n1, n2, n3, n4, hn⟩ : ∃ n1 n2 n3 n4, tightB d q mo e lf = ((n1, n2), (n3, n4)) := ⟨_, _, _, _, rfl⟩
    rw [hn] at hTc TR
    have tc := bT2.cell
    have sc := bS2.cell
    have p0 : (0 : Int) ≤ (place : Int) := by omega
    have p1 : (place : Int) < (l.length : Int) + 1 := by omega
    have p2 : (place : Int) + 1 < (l.length : Int) + 1 := by omega
    have p3 : (0 : Int) ≤ (place : Int) + 1 := by omega
    have p4 : IntKind.i64.wrap ((place : Int) + 1) = (place : Int) + 1 := by rw [IntKind.wrap_i64]; omega
    have H1 : Hid (Boxed w2 (w.heap.size + 1) 119 (.slice (some ⟨g, 0, none⟩) (l.length + 1) scap)) := bS2
    have H2 : Hid (Boxed w2 (w.heap.size + 1 + 1) 213 (.func (.func tf) #[] #[])) := bT2
    have H3 : Hid (Boxed w2 (w.heap.size + 1 + 1 + 1) 4 (.bool false)) := bR2
    have H4 : Hid (w2.ownsRow base 152 2 (.slice (some ⟨g, 0, none⟩) (l.length + 1) scap) (l.length + 1) (spanCells R)) := ho2
    have H5 : Hid (BlkW w2 w.heap.size #[.int .i64 q, .int .i64 s] 35) := bK2
    have H6 : Hid (GoodRow l.length R) := hgd
    have H7 : Hid ((foldW d q s r pre).1 = R) := hR
    have H8 : Hid ((foldW d q s r pre).2 = true) := hok
    have H9 : Hid (w.grownBy W (some g)) := hg1
    have H10 : Hid (Below W.heap.size W w2) := hb2
    have H11 : Hid (w.heap.size + 1 + 1 + 1 < w2.heap.size) := bR2.lt
    clear hmo he hlf ge gl re rl hmr hT hI heg hS hSp hsq hown hown0 hr hs0 _hq bK bS bT bR hgr0 bK1 bS1 bT1 bR1 ho1 hok hgd hg1 bX hlt hW bS2 bT2 bR2 ho2 bK2 hR hb2
    have l1 : w.heap.size + 1 < w2.heap.size := by have := H11.out; omega
    have l2 : w.heap.size + 1 + 1 < w2.heap.size := by have := H11.out; omega
    have lg : g < w2.heap.size := (H4.out.lt g rfl).2
    have cW : ∀ W', Below w2.heap.size w2 W' → W'.cell? ⟨w.heap.size + 1 + 1, 0, none⟩ = some (.func (.func tf) #[] #[]) ∧ W'.cell? ⟨w.heap.size + 1, 0, none⟩ = some (.slice (some ⟨g, 0, none⟩) (l.length + 1) scap) ∧
        W'.cell? ⟨g, place * 2, none⟩ = some (.int .i64 e.1) ∧ W'.cell? ⟨g, place * 2 + 1, none⟩ = some (.int .i64 e.2) ∧ W'.cell? ⟨g, (place + 1) * 2, none⟩ = some (.int .i64 lf.1) ∧ W'.cell? ⟨g, (place + 1) * 2 + 1, none⟩ = some (.int .i64 lf.2) := fun W' hb =>
      ⟨(hb.cell (p := ⟨w.heap.size + 1 + 1, 0, none⟩) l2).trans tc, (hb.cell (p := ⟨w.heap.size + 1, 0, none⟩) l1).trans sc, (hb.cell (p := ⟨g, place * 2, none⟩) lg).trans x0, (hb.cell (p := ⟨g, place * 2 + 1, none⟩) lg).trans x1, (hb.cell (p := ⟨g, (place + 1) * 2, none⟩) lg).trans y0, (hb.cell (p := ⟨g, (place + 1) * 2 + 1, none⟩) lg).trans y1⟩
    clear tc sc x0 x1 y0 y1
    refine wpIn_mono (Q := fun ex a' w' => ex = .normal ∧ ∃ B1 B2, w2.heap.size ≤ B1 ∧ w2.heap.size ≤ B2 ∧ B1 ≠ B2 ∧ Below w2.heap.size w2 w' ∧ w'.heap[B1]? = some (.cells #[.int .i64 n1, .int .i64 n2] 152 (0, 0)) ∧ w'.heap[B2]? = some (.cells #[.int .i64 n3, .int .i64 n4] 152 (0, 0)) ∧ a' = { tmps := #[.agg #[.int .i64 q, .int .i64 s], .slice (some ⟨g, 0, none⟩) (l.length + 1) scap, .func (.func gf) #[] #[.pointer (some ⟨Bs, 0, none⟩)], .func (.func tf) #[] #[], .pointer (some ⟨w.heap.size, 0, none⟩), .pointer (some ⟨w.heap.size + 1, 0, none⟩), undef, .pointer (some ⟨w.heap.size + 1 + 1, 0, none⟩), .pointer (some ⟨w.heap.size + 1 + 1 + 1, 0, none⟩), .int .i64 (place : Int), .pointer (some ⟨Bx, 0, none⟩), .int .i64 q, .int .i64 mo, .pointer (some ⟨B1, 0, none⟩), .pointer (some ⟨B2, 0, none⟩), .func (.func gf) #[] #[.pointer (some ⟨Bs, 0, none⟩)], .int .i64 (place : Int), t.val, .tuple #[.int .i64 q, .int .i64 mo], .agg #[.int .i64 t.x, .int .i64 t.y, .int .i64 t.lo, .int .i64 t.hi, .int .i64 t.fr, .int .i64 t.by_, .bool t.ho], .agg #[.int .i64 q, .int .i64 s], .tuple #[.int .i64 q, .int .i64 mo], .int .i64 q, .int .i64 mo, .tuple #[.agg #[.int .i64 n1, .int .i64 n2], .agg #[.int .i64 n3, .int .i64 n4]], .func (.func tf) #[] #[], .slice (some ⟨g, 0, none⟩) (l.length + 1) scap, .int .i64 (place : Int), .pointer (some ⟨g, place * 2, none⟩), .agg #[.int .i64 e.1, .int .i64 e.2], .slice (some ⟨g, 0, none⟩) (l.length + 1) scap, .int .i64 (place : Int), .int .i64 ((place : Int) + 1), .pointer (some ⟨g, (place + 1) * 2, none⟩), .agg #[.int .i64 lf.1, .int .i64 lf.2], .int .i64 q, .int .i64 mo, .agg #[.int .i64 q, .int .i64 mo], .tuple #[.agg #[.int .i64 n1, .int .i64 n2], .agg #[.int .i64 n3, .int .i64 n4]], .agg #[.int .i64 n1, .int .i64 n2], .agg #[.int .i64 n3, .int .i64 n4], undef, undef, undef, undef, undef, undef, undef, undef, undef, undef, undef, undef, undef, undef, undef], defers := [] }) ?reg ?rest
    case reg =>
      refine wpIn_region_three (Z := #[.int .i64 0, .int .i64 0]) (T := 152) 16 _ _ _ _ (.agg #[.int .i64 n3, .int .i64 n4]) (by kernel_rfl) (by kernel_rfl) (by kernel_rfl) (by rintro ⟨a, w, h, _⟩; cases h) (by rfl) rfl rfl rfl rfl rfl rfl (fun ρ W => by rfl) (fun ρ W => by rfl) _ rfl _ rfl (by kernel_rfl) (by kernel_rfl) (by kernel_rfl) (by kernel_rfl) (by kernel_rfl) (by kernel_rfl) (by kernel_rfl) (by kernel_rfl) (by kernel_rfl) (by kernel_rfl) (by kernel_rfl) (by kernel_rfl) (fun d hd => by cases hd; simp) (fun d hd => by cases hd; simp) (fun d hd => by cases hd; simp) (fun d hd => by cases hd; decide) (fun d hd => by cases hd; decide) ?_
      simp only [List.take_succ_cons, List.take_zero]
      refine wpQA_cons (.func (.func tf) #[] #[]) (YA_of rfl (fun W' hW' => ?_)) ?_
      · obtain ⟨f1, f2, f3, f4, f5, f6⟩ := cW W' hW'
        go_simp
      simp only [Act.put, List.setIfInBounds_toArray, List.set_cons_succ, List.set_cons_zero]
      refine wpQA_cons (.slice (some ⟨g, 0, none⟩) (l.length + 1) scap) (YA_of rfl (fun W' hW' => ?_)) ?_
      · obtain ⟨f1, f2, f3, f4, f5, f6⟩ := cW W' hW'
        go_simp
      simp only [Act.put, List.setIfInBounds_toArray, List.set_cons_succ, List.set_cons_zero]
      refine wpQA_cons (.int .i64 (place : Int)) (YA_of rfl (fun W' hW' => ?_)) ?_
      · obtain ⟨f1, f2, f3, f4, f5, f6⟩ := cW W' hW'
        go_simp
      simp only [Act.put, List.setIfInBounds_toArray, List.set_cons_succ, List.set_cons_zero]
      refine wpQA_cons (.pointer (some ⟨g, place * 2, none⟩)) (YA_of rfl (fun W' hW' => ?_)) ?_
      · obtain ⟨f1, f2, f3, f4, f5, f6⟩ := cW W' hW'
        go_simp
      simp only [Act.put, List.setIfInBounds_toArray, List.set_cons_succ, List.set_cons_zero]
      refine wpQA_cons (.agg #[.int .i64 e.1, .int .i64 e.2]) (YA_of rfl (fun W' hW' => ?_)) ?_
      · obtain ⟨f1, f2, f3, f4, f5, f6⟩ := cW W' hW'
        go_simp
      simp only [Act.put, List.setIfInBounds_toArray, List.set_cons_succ, List.set_cons_zero]
      refine wpQA_cons (.slice (some ⟨g, 0, none⟩) (l.length + 1) scap) (YA_of rfl (fun W' hW' => ?_)) ?_
      · obtain ⟨f1, f2, f3, f4, f5, f6⟩ := cW W' hW'
        go_simp
      simp only [Act.put, List.setIfInBounds_toArray, List.set_cons_succ, List.set_cons_zero]
      refine wpQA_cons (.int .i64 (place : Int)) (YA_of rfl (fun W' hW' => ?_)) ?_
      · obtain ⟨f1, f2, f3, f4, f5, f6⟩ := cW W' hW'
        go_simp
      simp only [Act.put, List.setIfInBounds_toArray, List.set_cons_succ, List.set_cons_zero]
      refine wpQA_cons (.int .i64 ((place : Int) + 1)) (YA_of rfl (fun W' hW' => ?_)) ?_
      · obtain ⟨f1, f2, f3, f4, f5, f6⟩ := cW W' hW'
        go_simp
      simp only [Act.put, List.setIfInBounds_toArray, List.set_cons_succ, List.set_cons_zero]
      refine wpQA_cons (.pointer (some ⟨g, (place + 1) * 2, none⟩)) (YA_of rfl (fun W' hW' => ?_)) ?_
      · obtain ⟨f1, f2, f3, f4, f5, f6⟩ := cW W' hW'
        go_simp
      simp only [Act.put, List.setIfInBounds_toArray, List.set_cons_succ, List.set_cons_zero]
      refine wpQA_cons (.agg #[.int .i64 lf.1, .int .i64 lf.2]) (YA_of rfl (fun W' hW' => ?_)) ?_
      · obtain ⟨f1, f2, f3, f4, f5, f6⟩ := cW W' hW'
        go_simp
      simp only [Act.put, List.setIfInBounds_toArray, List.set_cons_succ, List.set_cons_zero]
      refine wpQA_cons (.int .i64 q) (YA_of rfl (fun W' hW' => ?_)) ?_
      · obtain ⟨f1, f2, f3, f4, f5, f6⟩ := cW W' hW'
        go_simp
      simp only [Act.put, List.setIfInBounds_toArray, List.set_cons_succ, List.set_cons_zero]
      refine wpQA_cons (.int .i64 mo) (YA_of rfl (fun W' hW' => ?_)) ?_
      · obtain ⟨f1, f2, f3, f4, f5, f6⟩ := cW W' hW'
        go_simp
      simp only [Act.put, List.setIfInBounds_toArray, List.set_cons_succ, List.set_cons_zero]
      refine wpQA_cons (.agg #[.int .i64 q, .int .i64 mo]) (YA_of rfl (fun W' hW' => ?_)) ?_
      · obtain ⟨f1, f2, f3, f4, f5, f6⟩ := cW W' hW'
        go_simp
      simp only [Act.put, List.setIfInBounds_toArray, List.set_cons_succ, List.set_cons_zero]
      refine wpQA_cons (.tuple #[.agg #[.int .i64 n1, .int .i64 n2], .agg #[.int .i64 n3, .int .i64 n4]]) (YA_call (f := tf) (args := #[.agg #[.int .i64 e.1, .int .i64 e.2], .agg #[.int .i64 lf.1, .int .i64 lf.2], .agg #[.int .i64 q, .int .i64 mo]]) rfl (fun W' hW' => ?_) (fun W' => hTc W')) ?_
      · go_simp
      simp only [Act.put, List.setIfInBounds_toArray, List.set_cons_succ, List.set_cons_zero]
      refine wpQA_cons (.tuple #[.agg #[.int .i64 n1, .int .i64 n2], .agg #[.int .i64 n3, .int .i64 n4]]) (YA_of rfl (fun W' hW' => ?_)) ?_
      · go_simp
      simp only [Act.put, List.setIfInBounds_toArray, List.set_cons_succ, List.set_cons_zero]
      refine wpQA_cons (.agg #[.int .i64 n1, .int .i64 n2]) (YA_of rfl (fun W' hW' => ?_)) ?_
      · go_simp
      simp only [Act.put, List.setIfInBounds_toArray, List.set_cons_succ, List.set_cons_zero]
      refine wpQA_nil ⟨YA_of rfl (fun W' hW' => ?_), ?_⟩
      · go_simp
      intro B1 B2 W' hB1 hB2 hne hbW t1 t2
      simp only [List.setIfInBounds_toArray]
      obtain ⟨t10, t11, t1f⟩ := blk2 t1
      obtain ⟨t20, t21, t2f⟩ := blk2 t2
      have U1 : Hid (((((W'.setCell ⟨B1, 0, none⟩ (.int .i64 n1)).setCell ⟨B1, 1, none⟩ (.int .i64 n2)).setCell ⟨B2, 0, none⟩ (.int .i64 n3)).setCell ⟨B2, 1, none⟩ (.int .i64 n4)).heap[B1]? = some (.cells #[.int .i64 n1, .int .i64 n2] 152 (0, 0))) := by
        show _ = _
        rw [heap_setCell_other _ ⟨B2, 1, none⟩ B1 _ hne, heap_setCell_other _ ⟨B2, 0, none⟩ B1 _ hne]
        exact blk2_set1 (blk2_set0 t1 _) _
      have U2 : Hid (((((W'.setCell ⟨B1, 0, none⟩ (.int .i64 n1)).setCell ⟨B1, 1, none⟩ (.int .i64 n2)).setCell ⟨B2, 0, none⟩ (.int .i64 n3)).setCell ⟨B2, 1, none⟩ (.int .i64 n4)).heap[B2]? = some (.cells #[.int .i64 n3, .int .i64 n4] 152 (0, 0))) := by
        show _ = _
        have t3 : ((W'.setCell ⟨B1, 0, none⟩ (.int .i64 n1)).setCell ⟨B1, 1, none⟩ (.int .i64 n2)).heap[B2]? = some (.cells #[.int .i64 0, .int .i64 0] 152 (0, 0)) := by
          rw [heap_setCell_other _ ⟨B1, 1, none⟩ B2 _ (Ne.symm hne), heap_setCell_other _ ⟨B1, 0, none⟩ B2 _ (Ne.symm hne)]
          exact t2
        exact blk2_set1 (blk2_set0 t3 _) _
      have U3 : Hid (Below w2.heap.size w2 ((((W'.setCell ⟨B1, 0, none⟩ (.int .i64 n1)).setCell ⟨B1, 1, none⟩ (.int .i64 n2)).setCell ⟨B2, 0, none⟩ (.int .i64 n3)).setCell ⟨B2, 1, none⟩ (.int .i64 n4))) :=
        (((hbW.setCell (p := ⟨B1, 0, none⟩) hB1 _).setCell (p := ⟨B1, 1, none⟩) hB1 _).setCell (p := ⟨B2, 0, none⟩) hB2 _).setCell (p := ⟨B2, 1, none⟩) hB2 _
      have hne' := Ne.symm hne
      clear t1 t2
      refine ⟨?_, ?_⟩
      · refine wpOp_go rfl rfl (fun K' hK => ?_)
        unfold Oper.wp
        go_simp
        refine hK _ _ ?_
        clear hK
        refine wpOp_go rfl rfl (fun K'' hK' => ?_)
        unfold Oper.wp
        go_simp
        refine hK' _ _ ?_
        exact ⟨trivial, B1, B2, hB1, hB2, hne, U3.out, U1.out, U2.out, rfl⟩
      · refine wpOp_go rfl rfl (fun K' hK => ?_)
        unfold Oper.wp
        go_simp
        refine hK _ _ ?_
        clear hK
        refine wpOp_go rfl rfl (fun K'' hK' => ?_)
        unfold Oper.wp
        go_simp
        refine hK' _ _ ?_
        clear hK'
        refine wpOp_go rfl rfl (fun K3 hK3 => ?_)
        unfold Oper.wp
        go_simp
        refine hK3 _ _ ?_
        exact ⟨trivial, B1, B2, hB1, hB2, hne, U3.out, U1.out, U2.out, rfl⟩
    case rest =>
      rintro ex a' w3 ⟨rfl, B1, B2, hB1, hB2, hne, hb3, t1, t2, rfl⟩
      obtain ⟨t10, t11, t1f⟩ := blk2 t1
      obtain ⟨t20, t21, t2f⟩ := blk2 t2
      have Z1 := boxed_below H1.out hb3
      have Z3 := boxed_below H3.out hb3
      have Z4 := owns_below H4.out hb3
      have sc := Z1.cell
      have rc := Z3.cell
      have rf := Z3.frozen
      have bW3 : Below W.heap.size W w3 := H10.out.trans (hb3.mono H10.out.size)
      have SN : Hid (foldW d q s r (pre ++ [⟨(place, t), hx⟩]) = (rowStep d q s R (place, t), someB (n1, n2) && someB (n3, n4))) := by
        show _ = _
        rw [foldW_snoc, H7.out, H8.out]
        unfold okStep
        rw [TR.out]
        rfl
      have HZ : Hid (w3.ownsRow base 152 2 (.slice (some ⟨g, 0, none⟩) (l.length + 1) scap) (l.length + 1) (spanCells R)) := Z4
      have HR : Hid (Boxed w3 (w.heap.size + 1 + 1 + 1) 4 (.bool false)) := Z3
      have lB2 := lt_of_block t2
      have lB1 := lt_of_block t1
      clear Z4 t1 t2
      cases hs1 : decide (n2 < n1) with
      | true =>
        have HE : Hid ((foldW d q s r (pre ++ [⟨(place, t), hx⟩])).2 = false) := by
          show _ = _
          rw [SN.out]
          have : someB (n1, n2) = false := by simp [someB]; simpa using hs1
          rw [this]; rfl
        gi_wp2_with (refine ⟨trivial, ?_⟩; gi_at_call 146; refine (CallsIn.inRound lp (callsIn_wide.2 (spanNo_val _ _ _ _ hs1))).mono ?_; rintro z w4 ⟨rfl, hb4⟩; have rc4 := (boxed_below Z3 hb4).cell; have rf4 := (boxed_below Z3 hb4).frozen)
        have bW4 : Below W.heap.size W w4 := bW3.trans (hb4.mono bW3.size)
        refine ⟨trivial, ?_⟩
        gi_wp2
        exact ⟨((keeps_below bW4).trans (KeepsOthers.setCell _ _ _)).from _, ⟨⟨rfl, HE.out⟩, (boxed_below HR.out hb4).set _⟩, grown_over (grown_below H9.out bW4) (grownBy_setCell' w4 (w.heap.size + 1 + 1 + 1) (.bool false)) (fun k e => by cases e; omega)⟩
      | false =>
        cases hs2 : decide (n4 < n3) with
        | true =>
          have HE : Hid ((foldW d q s r (pre ++ [⟨(place, t), hx⟩])).2 = false) := by
            show _ = _
            rw [SN.out]
            have : someB (n3, n4) = false := by simp [someB]; simpa using hs2
            rw [this, Bool.and_false]
          gi_wp2_with (refine ⟨trivial, ?_⟩; gi_at_call 146; refine (CallsIn.inRound lp (callsIn_wide.2 (spanNo_val _ _ _ _ hs1))).mono ?_; rintro z w4 ⟨rfl, hb4⟩; have u20 := (hb4.cell (p := ⟨B2, 0, none⟩) lB2).trans t20; have u21 := (hb4.cell (p := ⟨B2, 1, none⟩) lB2).trans t21)
          clear hs1
          have bR4 := boxed_below HR.out hb4
          have bW4 : Below W.heap.size W w4 := bW3.trans (hb4.mono bW3.size)
          gi_wp2_with (refine ⟨trivial, ?_⟩; gi_at_call 146; refine (CallsIn.inRound lp (callsIn_wide.2 (spanNo_val _ _ _ _ hs2))).mono ?_; rintro z w5 ⟨rfl, hb5⟩; have rc5 := (boxed_below bR4 hb5).cell; have rf5 := (boxed_below bR4 hb5).frozen)
          have bW5 : Below W.heap.size W w5 := bW4.trans (hb5.mono bW4.size)
          exact ⟨((keeps_below bW5).trans (KeepsOthers.setCell _ _ _)).from _, ⟨⟨rfl, HE.out⟩, (boxed_below bR4 hb5).set _⟩, grown_over (grown_below H9.out bW5) (grownBy_setCell' w5 (w.heap.size + 1 + 1 + 1) (.bool false)) (fun k e => by cases e; omega)⟩
        | false =>
          have HE : Hid ((foldW d q s r (pre ++ [⟨(place, t), hx⟩])).2 = true) := by
            show _ = _
            rw [SN.out]
            have i1 : someB (n1, n2) = true := by simp [someB]; simpa using hs1
            have i2 : someB (n3, n4) = true := by simp [someB]; simpa using hs2
            rw [i1, i2]; rfl
          gi_wp2_with (refine ⟨trivial, ?_⟩; gi_at_call 146; refine (CallsIn.inRound lp (callsIn_wide.2 (spanNo_val _ _ _ _ hs1))).mono ?_; rintro z w4 ⟨rfl, hb4⟩; have u20 := (hb4.cell (p := ⟨B2, 0, none⟩) lB2).trans t20; have u21 := (hb4.cell (p := ⟨B2, 1, none⟩) lB2).trans t21)
          clear hs1
          have bW4 : Below W.heap.size W w4 := bW3.trans (hb4.mono bW3.size)
          have b34 : Below w3.heap.size w3 w4 := hb4
          gi_wp2_with (refine ⟨trivial, ?_⟩; gi_at_call 146; refine (CallsIn.inRound lp (callsIn_wide.2 (spanNo_val _ _ _ _ hs2))).mono ?_; rintro z w5 ⟨rfl, hb5⟩)
          have b35 : Below w3.heap.size w3 w5 := b34.trans (hb5.mono b34.size)
          have bW5 : Below W.heap.size W w5 := bW4.trans (hb5.mono bW4.size)
          have Z5 := owns_below HZ.out b35
          have k1 := (b35.cell (p := ⟨w.heap.size + 1, 0, none⟩) (by have := hb3.size; show w.heap.size + 1 < _; omega)).trans sc
          have e10 := (b35.cell (p := ⟨B1, 0, none⟩) lB1).trans t10
          have e11 := (b35.cell (p := ⟨B1, 1, none⟩) lB1).trans t11
          have e20 := (b35.cell (p := ⟨B2, 0, none⟩) lB2).trans t20
          have e21 := (b35.cell (p := ⟨B2, 1, none⟩) lB2).trans t21
          obtain ⟨o0, hv0⟩ : ∃ o, (spanCells R)[place * 2]? = some o := ⟨_, List.getElem?_eq_getElem (by rw [Z5.1]; omega)⟩
          obtain ⟨o1, hv1⟩ : ∃ o, (spanCells R)[place * 2 + 1]? = some o := ⟨_, List.getElem?_eq_getElem (by rw [Z5.1]; omega)⟩
          obtain ⟨o2, hv2⟩ : ∃ o, (spanCells R)[(place + 1) * 2]? = some o := ⟨_, List.getElem?_eq_getElem (by rw [Z5.1]; omega)⟩
          obtain ⟨o3, hv3⟩ : ∃ o, (spanCells R)[(place + 1) * 2 + 1]? = some o := ⟨_, List.getElem?_eq_getElem (by rw [Z5.1]; omega)⟩
          have m0 := (Z5.cellAt (place * 2) (by omega)).trans hv0
          have m1 := (Z5.cellAt (place * 2 + 1) (by omega)).trans hv1
          have m2 := (Z5.cellAt ((place + 1) * 2) (by omega)).trans hv2
          have m3 := (Z5.cellAt ((place + 1) * 2 + 1) (by omega)).trans hv3
          have mf := Z5.frozenAt
          have HZ5 : Hid (w5.ownsRow base 152 2 (.slice (some ⟨g, 0, none⟩) (l.length + 1) scap) (l.length + 1) (spanCells R)) := Z5
          have HB5 : Hid (Below W.heap.size W w5) := bW5
          have HB25 : Hid (Below w2.heap.size w2 w5) := hb3.trans (b35.mono hb3.size)
          clear hv0 hv1 hv2 hv3 Z5 bW5 b35 b34 bW4 hb5 hb4 u20 u21 t10 t11 t20 t21 t1f t2f sc rc rf cW hTc hs2 bW3 hb3 Z1 Z3
          have gB1 : B1 ≠ g := by omega
          have gB2 : B2 ≠ g := by omega
          have gS : w.heap.size + 1 ≠ g := by omega
          have n1g : place * 2 ≠ (place + 1) * 2 := by omega
          obtain ⟨V, hV⟩ : ∃ V, w5.drew = V := ⟨_, rfl⟩
          obtain ⟨X1, hX1⟩ : ∃ X1, (V.setCell ⟨g, place * 2, none⟩ (.int .i64 n1)).setCell ⟨g, place * 2 + 1, none⟩ (.int .i64 n2) = X1 := ⟨_, rfl⟩
          have V1 : V.cell? ⟨w.heap.size + 1, 0, none⟩ = some (.slice (some ⟨g, 0, none⟩) (l.length + 1) scap) := by rw [← hV]; exact k1
          have V10 : V.cell? ⟨B1, 0, none⟩ = some (.int .i64 n1) := by rw [← hV]; exact e10
          have V11 : V.cell? ⟨B1, 1, none⟩ = some (.int .i64 n2) := by rw [← hV]; exact e11
          have V20 : V.cell? ⟨B2, 0, none⟩ = some (.int .i64 n3) := by rw [← hV]; exact e20
          have V21 : V.cell? ⟨B2, 1, none⟩ = some (.int .i64 n4) := by rw [← hV]; exact e21
          have hxo : ∀ (p : Addr), p.block ≠ g → X1.cell? p = V.cell? p := fun p hp => by
            rw [← hX1]
            exact World.cell?_of_block ((heap_setCell_other _ ⟨g, place * 2 + 1, none⟩ p.block _ hp).trans (heap_setCell_other _ ⟨g, place * 2, none⟩ p.block _ hp))
          have HV : V.ownsRow base 152 2 (.slice (some ⟨g, 0, none⟩) (l.length + 1) scap) (l.length + 1) (spanCells R) := by rw [← hV]; exact HZ5.out.drew
          have cF : ∀ W', W' = V ∨ W' = X1 → W'.cell? ⟨w.heap.size + 1, 0, none⟩ = some (.slice (some ⟨g, 0, none⟩) (l.length + 1) scap) ∧ W'.cell? ⟨B1, 0, none⟩ = some (.int .i64 n1) ∧ W'.cell? ⟨B1, 1, none⟩ = some (.int .i64 n2) ∧ W'.cell? ⟨B2, 0, none⟩ = some (.int .i64 n3) ∧ W'.cell? ⟨B2, 1, none⟩ = some (.int .i64 n4) := by
            rintro W' (rfl | rfl)
            · exact ⟨V1, V10, V11, V20, V21⟩
            · exact ⟨(hxo _ gS).trans V1, (hxo _ gB1).trans V10, (hxo _ gB1).trans V11, (hxo _ gB2).trans V20, (hxo _ gB2).trans V21⟩
          have HX1 : X1.ownsRow base 152 2 (.slice (some ⟨g, 0, none⟩) (l.length + 1) scap) (l.length + 1) (((spanCells R).set (place * 2) (.int .i64 n1)).set (place * 2 + 1) (.int .i64 n2)) := by
            rw [← hX1]
            exact owns_put (owns_put HV (by omega) _) (by omega) _
          have HX4 := owns_put (owns_put HX1 (show (place + 1) * 2 < (l.length + 1) * 2 by omega) (.int .i64 n3)) (show (place + 1) * 2 + 1 < (l.length + 1) * 2 by omega) (.int .i64 n4)
          have s0 : ∃ u, V.cell? ⟨g, place * 2, none⟩ = some u := ⟨o0, by rw [← hV]; exact m0⟩
          have s1 : ∃ u, V.cell? ⟨g, place * 2 + 1, none⟩ = some u := ⟨o1, by rw [← hV]; exact m1⟩
          have sf := HV.frozenAt
          have r0 : ∃ u, X1.cell? ⟨g, (place + 1) * 2, none⟩ = some u := some_of_get' (HX1.cellAt ((place + 1) * 2) (by omega)) HX1.1 (by omega)
          have r1 : ∃ u, X1.cell? ⟨g, (place + 1) * 2 + 1, none⟩ = some u := some_of_get' (HX1.cellAt ((place + 1) * 2 + 1) (by omega)) HX1.1 (by omega)
          have rf := HX1.frozenAt
          obtain ⟨u0, s0⟩ := s0
          obtain ⟨u1, s1⟩ := s1
          obtain ⟨v0, r0⟩ := r0
          obtain ⟨v1, r1⟩ := r1
          have J4 : Hid (((X1.setCell ⟨g, (place + 1) * 2, none⟩ (.int .i64 n3)).setCell ⟨g, (place + 1) * 2 + 1, none⟩ (.int .i64 n4)).ownsRow base 152 2 (.slice (some ⟨g, 0, none⟩) (l.length + 1) scap) (l.length + 1) (((((spanCells R).set (place * 2) (.int .i64 n1)).set (place * 2 + 1) (.int .i64 n2)).set ((place + 1) * 2) (.int .i64 n3)).set ((place + 1) * 2 + 1) (.int .i64 n4))) := HX4
          have JV : Hid (w5.drew = V) := hV
          have JX : Hid ((V.setCell ⟨g, place * 2, none⟩ (.int .i64 n1)).setCell ⟨g, place * 2 + 1, none⟩ (.int .i64 n2) = X1) := hX1
          clear k1 e10 e11 e20 e21 m0 m1 m2 m3 mf HX4 HX1 HV hX1
          refine wpIn_mono (Q := fun ex _ w' => ex = .normal ∧ w' = (X1.setCell ⟨g, (place + 1) * 2, none⟩ (.int .i64 n3)).setCell ⟨g, (place + 1) * 2 + 1, none⟩ (.int .i64 n4)) ?reg8 ?rest8
          case reg8 =>
            refine wpIn_region_stores 8 _ _ (.pointer (some ⟨g, (place + 1) * 2, none⟩)) (fun W' => W' = V) (fun W' => W' = X1) (by kernel_rfl) (by kernel_rfl) (by kernel_rfl) (by rintro ⟨a, w, h, _⟩; cases h) (by rfl) rfl rfl rfl _ rfl _ rfl (by kernel_rfl) (by kernel_rfl) (by kernel_rfl) (by kernel_rfl) (by kernel_rfl) hV ?_
            clear hV
            simp only [List.take_succ_cons, List.take_zero]
            refine wpQG_cons (.slice (some ⟨g, 0, none⟩) (l.length + 1) scap) (YG_of rfl (fun W' hW' => ?_)) ?_
            · obtain ⟨f1, f2, f3, f4, f5⟩ := cF W' hW'
              go_simp
            simp only [Act.put, List.setIfInBounds_toArray, List.set_cons_succ, List.set_cons_zero]
            refine wpQG_cons (.int .i64 (place : Int)) (YG_of rfl (fun W' hW' => ?_)) ?_
            · go_simp
            simp only [Act.put, List.setIfInBounds_toArray, List.set_cons_succ, List.set_cons_zero]
            refine wpQG_cons (.slice (some ⟨g, 0, none⟩) (l.length + 1) scap) (YG_of rfl (fun W' hW' => ?_)) ?_
            · obtain ⟨f1, f2, f3, f4, f5⟩ := cF W' hW'
              go_simp
            simp only [Act.put, List.setIfInBounds_toArray, List.set_cons_succ, List.set_cons_zero]
            refine wpQG_cons (.int .i64 (place : Int)) (YG_of rfl (fun W' hW' => ?_)) ?_
            · go_simp
            simp only [Act.put, List.setIfInBounds_toArray, List.set_cons_succ, List.set_cons_zero]
            refine wpQG_cons (.int .i64 ((place : Int) + 1)) (YG_of rfl (fun W' hW' => ?_)) ?_
            · go_simp
            simp only [Act.put, List.setIfInBounds_toArray, List.set_cons_succ, List.set_cons_zero]
            refine wpQG_cons (.agg #[.int .i64 n1, .int .i64 n2]) (YG_of rfl (fun W' hW' => ?_)) ?_
            · obtain ⟨f1, f2, f3, f4, f5⟩ := cF W' hW'
              go_simp
            simp only [Act.put, List.setIfInBounds_toArray, List.set_cons_succ, List.set_cons_zero]
            refine wpQG_cons (.agg #[.int .i64 n3, .int .i64 n4]) (YG_of rfl (fun W' hW' => ?_)) ?_
            · obtain ⟨f1, f2, f3, f4, f5⟩ := cF W' hW'
              go_simp
            simp only [Act.put, List.setIfInBounds_toArray, List.set_cons_succ, List.set_cons_zero]
            refine wpQG_cons (.pointer (some ⟨g, place * 2, none⟩)) (YG_of rfl (fun W' hW' => ?_)) ?_
            · go_simp
            simp only [Act.put, List.setIfInBounds_toArray, List.set_cons_succ, List.set_cons_zero]
            refine wpQG_nil ⟨fun W' hW' => ?_, YG_of rfl (fun W' hW' => ?_), fun W' hW' => ?_⟩
            · refine ⟨X1, ?_, rfl⟩
              rw [hW', ← JX.out]
              go_simp
            · go_simp
            · refine wpOp_go rfl rfl (fun K' hK => ?_)
              rw [hW']
              unfold Oper.wp
              go_simp
              refine hK _ _ ?_
              exact ⟨trivial, rfl⟩
          case rest8 =>
            rintro ex a' w6 ⟨rfl, rfl⟩
            have hX : ∀ i, i ≠ g → ((X1.setCell ⟨g, (place + 1) * 2, none⟩ (.int .i64 n3)).setCell ⟨g, (place + 1) * 2 + 1, none⟩ (.int .i64 n4)).heap[i]? = w5.heap[i]? := fun i hi => by
              rw [heap_setCell_other _ ⟨g, (place + 1) * 2 + 1, none⟩ i _ hi, heap_setCell_other _ ⟨g, (place + 1) * 2, none⟩ i _ hi, ← JX.out, heap_setCell_other _ ⟨g, place * 2 + 1, none⟩ i _ hi, heap_setCell_other _ ⟨g, place * 2, none⟩ i _ hi, ← JV.out]
              rfl
            have hok : okStep d q s R (place, t) = true := by
              unfold okStep
              rw [TR.out]
              have := HE.out
              rw [SN.out] at this
              exact this
            have ER : spanCells (foldW d q s r (pre ++ [⟨(place, t), hx⟩])).1 = (((((spanCells R).set (place * 2) (.int .i64 n1)).set (place * 2 + 1) (.int .i64 n2)).set ((place + 1) * 2) (.int .i64 n3)).set ((place + 1) * 2 + 1) (.int .i64 n4)) := by
              rw [SN.out]
              show spanCells (rowStep d q s R (place, t)) = _
              unfold rowStep
              rw [TR.out, spanCells_set, spanCells_set]
            have h25 := HB25.out
            have hsz5 := HB5.out
            have gr5 : W.grownBy ((X1.setCell ⟨g, (place + 1) * 2, none⟩ (.int .i64 n3)).setCell ⟨g, (place + 1) * 2 + 1, none⟩ (.int .i64 n4)) (some g) := by
              have a0 : W.grownBy V (some g) := by
                rw [← JV.out]
                exact ⟨hsz5.os, hsz5.tape, hsz5.output, hsz5.size, fun i hi _ => hsz5.block i hi⟩
              have a1 := grown_over2 (grown_over2 a0 (grown_set V ⟨g, place * 2, none⟩ (.int .i64 n1))) (grown_set _ ⟨g, place * 2 + 1, none⟩ (.int .i64 n2))
              rw [JX.out] at a1
              exact grown_over2 (grown_over2 a1 (grown_set X1 ⟨g, (place + 1) * 2, none⟩ (.int .i64 n3))) (grown_set _ ⟨g, (place + 1) * 2 + 1, none⟩ (.int .i64 n4))
            have kp : KeepsOthers W ((X1.setCell ⟨g, (place + 1) * 2, none⟩ (.int .i64 n3)).setCell ⟨g, (place + 1) * 2 + 1, none⟩ (.int .i64 n4)) := by
              have a0 : KeepsOthers W V := by rw [← JV.out]; exact (keeps_below hsz5).trans (KeepsOthers.drew _)
              have a1 := (a0.trans (KeepsOthers.setCell V ⟨g, place * 2, none⟩ (.int .i64 n1))).trans (KeepsOthers.setCell _ ⟨g, place * 2 + 1, none⟩ (.int .i64 n2))
              rw [JX.out] at a1
              exact (a1.trans (KeepsOthers.setCell X1 ⟨g, (place + 1) * 2, none⟩ (.int .i64 n3))).trans (KeepsOthers.setCell _ ⟨g, (place + 1) * 2 + 1, none⟩ (.int .i64 n4))
            have hWw := H9.out.size
            have l3 := H11.out
            have hB : ∀ i, i ≠ g → i < w2.heap.size → ((X1.setCell ⟨g, (place + 1) * 2, none⟩ (.int .i64 n3)).setCell ⟨g, (place + 1) * 2 + 1, none⟩ (.int .i64 n4)).heap[i]? = w2.heap[i]? := fun i h1 h2 => (hX i h1).trans (h25.block i h2)
            show KeepsFrom _ _ _ ∧ KeepX _ _ _ _ ∧ _
            refine ⟨kp.from _, ⟨gr5.size, fun i hi hne => gr5.block i (by omega) (fun e => hne (by cases e; rfl))⟩, ⟨⟨⟨⟨⟨⟨(hB _ (by omega) (by omega)).trans H5.out, (hB _ (by omega) (by omega)).trans H1.out⟩, (hB _ (by omega) (by omega)).trans H2.out⟩, (hB _ (by omega) (by omega)).trans H3.out⟩, ?_⟩, ⟨HE.out, ?_⟩⟩, grown_over2 H9.out gr5⟩⟩
            · rw [ER]
              exact J4.out
            · rw [SN.out]
              exact H6.out.step hpl hok
  case done =>
    rintro D zs W hD hzs ⟨⟨⟨⟨⟨⟨bK1, bS1⟩, bT1⟩, bR1⟩, ho1⟩, ⟨hok, hgd⟩⟩, hg1⟩ hK
    obtain rfl := hS _ hzs
    have rc := bR1.cell
    have rf := bR1.frozen
    have HE : Hid ((foldW d q s r zs).2 = true) := hok
    clear hok hgd bK1 bS1 bT1 hI
    gi_wp2
    have hK' := (KeepsOthers.setCell W ⟨w.heap.size + 1 + 1 + 1, 0, none⟩ (.bool true)).same D _ hK rfl
    refine ⟨by simp, .inl ⟨_, _, rfl, run_takeDeferred hK', ?_⟩⟩
    have hc5 := cell_kept (World.cell?_setCell_same' W ⟨w.heap.size + 1 + 1 + 1, 0, none⟩ (.bool true) (by rw [rc]; rfl)) (grownBy_putObj' _ D (.deferred none)) (fun r e => by cases e; exact ⟨_, hK', rfl⟩)
    refine ⟨.bool true, ?_, by rw [HE.out], grown_over (grown_over hg1 (grownBy_setCell' W (w.heap.size + 1 + 1 + 1) (.bool true)) (fun k e => by cases e; omega)) (grownBy_putObj' _ D (.deferred none)) (fun k e => by cases e; omega), fun _ => ?_⟩
    · simp [results, Tryz.f123, go_sem, hc5]
    · exact (ho1.kept (grownBy_setCell' W (w.heap.size + 1 + 1 + 1) (.bool true)) (.inr (by simp [Value.ownBlock]; omega))).kept (grownBy_putObj' _ D (.deferred none)) (.inr (by simp [Value.ownBlock]; omega))
  case stop =>
    rintro D c pre W hD hsp ⟨⟨⟨rfl, hbad⟩, bR1⟩, hg1⟩ hK
    obtain ⟨post, hpost⟩ := hSp _ hsp
    have HE : Hid ((foldW d q s r seqn).2 = false) := by show _ = _; rw [hpost]; exact foldW_off d q s r pre post hbad
    clear hbad hI
    gi_wp2
    refine ⟨by simp, .inl ⟨_, _, rfl, run_takeDeferred hK, ?_⟩⟩
    have hc5 := cell_kept bR1.cell (grownBy_putObj' _ D (.deferred none)) (fun r e => by cases e; exact ⟨_, hK, rfl⟩)
    refine ⟨.bool false, ?_, by rw [HE.out], grown_over hg1 (grownBy_putObj' _ D (.deferred none)) (fun k e => by cases e; omega), fun h => by rw [HE.out] at h; cases h⟩
    simp [results, Tryz.f123, go_sem, hc5]
end Go.Proofs.YtgjleeamhkolhaaGreatDoor

namespace Go.Proofs.YtgjleeamhkolhaaGreatDoor
open Go.ChangeShapes Go.WideShapes Go.ChangeAt Go.RowKit

theorem own_none : ownKnob Tryz.prog.godebug = none := by kernel_rfl
theorem laid_out : laidOutB Tryz.prog = true := by kernel_rfl
theorem spans_said : SpansSaid := spans_any walk_any follow_any

abbrev laidL : List (String × DataW Unit) := [("errors.errorType", Rows.laid_errors_errorType)]
theorem gvar : Tryz.prog.globalNamed "errors.errorType" = some 0 := by kernel_rfl
theorem rtypeRow : (Tryz.prog.cutTypes.find? (·.1 == "internal/reflectlite.rtype")).map (·.2) = some 164 := by kernel_rfl
theorem errorRow : ((List.range (395 - 100)).filter fun t => Tryz.prog.rowNamed t [101, 114, 114, 111, 114]) = [69] := by kernel_rfl
theorem typesSize : Tryz.prog.types.size = 395 - 100 := by kernel_rfl

theorem errT_of_laid {W : World} (h : laidMetH Tryz.prog laidL W) : ErrT W := by
  have h' : laidMet Tryz.prog [] W ∧ handlesMet Tryz.prog laidL W := h
  obtain ⟨name, u, ty, e1, e2, e3, e4, e5⟩ := h'.2 _ (List.mem_singleton.2 rfl)
  have en : name = [101, 114, 114, 111, 114] := (Option.some.inj e1).symm
  subst en
  obtain rfl := Option.some.inj (rtypeRow.symm.trans e2)
  have hm : ty ∈ (List.range (395 - 100)).filter fun t => Tryz.prog.rowNamed t [101, 114, 114, 111, 114] := List.mem_filter.2 ⟨List.mem_range.2 (by rw [← typesSize]; exact e3), e4⟩
  rw [errorRow] at hm
  obtain rfl := List.mem_singleton.1 hm
  have hh : typeHandle Tryz.prog 69 = .pointer (some ⟨1, 69, none⟩) := by kernel_rfl
  rw [hh] at e5
  unfold ErrT
  simpa using World.var?_cell gvar e5 0

noncomputable def laidWorld (os : Os) : World :=
  let w0 := World.holding Tryz.prog os ⟨#[], #[], []⟩
  { w0 with heap := w0.heap.modify 0 fun
      | .cells _ t frozen => .cells #[.iface 164 (.agg #[.pointer (some ⟨1, 69, none⟩)])] t frozen
      | o => o }
theorem laidWorld_met (os : Os) (args : Array Value) : laidMetH Tryz.prog laidL ((laidWorld os).forCall (fun _ _ => 0) ⟨#[], args, []⟩).memory :=
  laidMetH_of_parts (laidMet_nil _ _) (by kernel_rfl)
end Go.Proofs.YtgjleeamhkolhaaGreatDoor
