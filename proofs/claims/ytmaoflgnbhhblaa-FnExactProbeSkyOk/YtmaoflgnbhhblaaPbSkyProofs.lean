/- For every list of tubes ProbeSkyOk of the program answers as its specification does; the argument reads behind the call as it read before it. No condition. -/
import Derived.Test.YtmaoflgnbhhblaaPbSkyLaw
import Derived.Test.YtmaoflgnbhhblaaPbOpenTs
import Derived.ProofKit
namespace Go.Proofs.Ytmaoflgnbhhblaa
open Go.ChangeShapes Go.WideShapes Go.ChangeAt Go.RowKit

theorem own_probeSkyOk : ownKnob Try.prog.godebug = none := by kernel_rfl
theorem laid_probeSkyOk : laidOutB Try.prog = true := by kernel_rfl

set_option maxRecDepth 100000 in
theorem probeSkyOk_lifted (os : Os) (started : os.Started) (H : Type) (enc : TypeId × Value → H) :
    ReturnsInHanded {} Try.checked os 3 .any (Rows.fnExactProbeSkyOkSpec.pre6 enc Try.prog Try.f3 Rows.fnExactProbeSkyOkRow.domain false) (Rows.fnExactProbeSkyOkSpec.post enc Try.prog Try.f3 false true false false) := by
  refine returnsInHanded_of_change (C := Try.checked) own_probeSkyOk started (by kernel_rfl) Try.func3
    (ChangeSpec.witness6 (enc := enc) (C := Try.checked) false ⟨#[], #[.slice none 0 0], []⟩ 8 (by kernel_rfl) (by kernel_rfl) (by kernel_rfl) (by kernel_rfl)) ?_
  intro W base args ds gs before hval0 hW hcnd _
  have hval : ∀ (j : Nat) t v, Try.f3.params[j]? = some t → args[j]? = some v → Value.okWide Try.prog W .any base t v := hval0
  have hW' := hW
  obtain ⟨p, q, hA0, hV, rfl, hfz, hnd⟩ := hW
  have hA : DataW.TrodAll enc Try.prog W 0 (fun _ => true) true Try.f3.params.toList args.toList ds p := hA0
  rw [Try.params3] at hA hval
  obtain ⟨v0, d0, rfl, rfl, h0⟩ := trodAll_one hA
  obtain ⟨rfl, rfl⟩ := trodVars_none hV
  have h0k := h0
  clear hA0 hval0
  simp only [List.append_nil] at hW'
  have hlt0 : ∀ x ∈ p, x.block < W.heap.size := fun x hx => by simpa using hW'.lt x hx
  have hargs0 : ∀ (W' : World), Below W.heap.size W W' → DataW.Trod enc Try.prog W' 0 (fun b => decide (b < W.heap.size)) true 22 v0 d0 p :=
    fun W' hn => Below.trod laid_probeSkyOk (by kernel_rfl) (of_decide_eq_true (by kernel_rfl)) h0k hn hlt0
  obtain ⟨a0, b0, o0, cap0, ts0, hv0, hl0, hs0⟩ := open_tubesArg (hval 0 22 v0 rfl rfl) h0
  subst hv0
  refine (skyLaw_all a0 b0 o0 cap0 ts0 W hl0 hs0).mono fun e W' ⟨he, hn⟩ => ?_
  subst he
  exact ⟨_, rfl, _, _, _, [], _, [], hW', trodAll_mk1 (shut_bool Try.underlying4 _), trodAll_mk1 (hargs0 _ hn), rfl, hn.frame _, fun h => by cases h⟩

theorem probeSkyOk_holds : Rows.FnExactProbeSkyOkSaid :=
  OpenClaim.holds_of_wide 3 Try.f3 rfl rfl rfl rfl rfl rfl rfl ⟨rfl, rfl, rfl, rfl, rfl⟩ rfl rfl rfl rfl rfl (by kernel_rfl) Try.func3 (by kernel_rfl)
    (of_decide_eq_true (by kernel_rfl)) (by unfold Func.isWrapper; rw [if_neg (of_decide_eq_false (by kernel_rfl))]; exact ⟨rfl, rfl⟩)
    (fun os started H enc _ => probeSkyOk_lifted os started H enc)
#print axioms probeSkyOk_holds
end Go.Proofs.Ytmaoflgnbhhblaa
