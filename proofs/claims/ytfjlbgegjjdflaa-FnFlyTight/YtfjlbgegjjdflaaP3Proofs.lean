/- For every code, of whatever length and bytes, the path that is drawn from it meets the law that nothing smaller holds all: the program's tube is the specification's, each tick of each span is that of some flight, and at each tick of each box of the tube the flight that the law takes is there and keeps to the path. No condition. -/
import Derived.ProofKit
import Derived.Test.YtfjlbgegjjdflaaJ09
import Derived.Test.YtfjlbgegjjdflaaJ10
namespace Go.Proofs.Ytfjlbgegjjdflaa
open Go.ChangeShapes Go.WideShapes Go.ChangeAt Go.RowKit

theorem p3_all (a : Option Addr) (cb co cap : Nat) (zs : List Int) (w : World) (hl : zs.length ≤ maxLen) (hc : zs.length ≤ cap) (hz : BytesAt w a cb co zs) :
    Calls Try.prog 4 #[.slice a zs.length cap] w fun e w' => e = .returned (.bool true) ∧ Below w.heap.size w w' := by
  by_cases h : zs.length ≤ 1048576
  · exact p3_any (spans_any walk_any follow_any) a cb co cap zs w hz h hc
  · exact p3_big a zs.length cap w hl (by omega)

set_option maxRecDepth 100000 in
theorem p3_lifted (os : Os) (started : os.Started) (H : Type) (enc : TypeId × Value → H) :
    ReturnsInHanded {} Try.checked os 4 .any (Rows.fnFlyTightSpec.pre6 enc Try.prog Try.f4 Rows.fnFlyTightRow.domain false) (Rows.fnFlyTightSpec.post enc Try.prog Try.f4 false true false false) := by
  refine returnsInHanded_of_change (C := Try.checked) own_noneC started (by kernel_rfl) Try.func4
    (ChangeSpec.witness6 (enc := enc) (C := Try.checked) false ⟨#[], #[.slice none 0 0], []⟩ 8 (by kernel_rfl) (by kernel_rfl) (by kernel_rfl) (by kernel_rfl)) ?_
  intro W base args ds gs before hval0 hW hcnd _
  have hval : ∀ (j : Nat) t v, Try.f4.params[j]? = some t → args[j]? = some v → Value.okWide Try.prog W .any base t v := hval0
  have hW' := hW
  obtain ⟨p, q, hA0, hV, rfl, hfz, hnd⟩ := hW
  have hA : DataW.TrodAll enc Try.prog W 0 (fun _ => true) true Try.f4.params.toList args.toList ds p := hA0
  rw [Try.params4] at hA hval
  obtain ⟨v0, d0, rfl, rfl, h0⟩ := trodAll_one hA
  obtain ⟨rfl, rfl⟩ := trodVars_none hV
  have h0k := h0
  clear hA0 hval0
  simp only [List.append_nil] at hW'
  have hlt : ∀ x ∈ p, x.block < W.heap.size := fun x hx => by simpa using hW'.lt x hx
  have hargs : ∀ (W' : World), Below W.heap.size W W' → DataW.Trod enc Try.prog W' 0 (fun b => decide (b < W.heap.size)) true 22 v0 d0 p :=
    fun W' hn => Below.trod laid_outC (by kernel_rfl) (of_decide_eq_true (by kernel_rfl)) h0k hn hlt
  obtain ⟨a, cb, co, cap, zs, hv0, hl, hc, hz⟩ := open_codeArg (hval 0 22 v0 rfl rfl) h0
  subst hv0
  refine (p3_all a cb co cap zs W hl hc hz).mono fun e W' ⟨he, hn⟩ => ?_
  subst he
  exact ⟨_, rfl, _, _, _, [], _, [], hW', trodAll_mk1 (shut_bool Try.underlying4 _), trodAll_mk1 (hargs _ hn), rfl, hn.frame _, fun h => by cases h⟩

theorem p3_holds : Rows.FnFlyTightSaid :=
  OpenClaim.holds_of_wide 4 Try.f4 rfl rfl rfl rfl rfl rfl rfl ⟨rfl, rfl, rfl, rfl, rfl⟩ rfl rfl rfl rfl rfl (by kernel_rfl) Try.func4 (by kernel_rfl)
    (of_decide_eq_true (by kernel_rfl)) (by unfold Func.isWrapper; rw [if_neg (of_decide_eq_false (by kernel_rfl))]; exact ⟨rfl, rfl⟩)
    (fun os started H enc _ => p3_lifted os started H enc)
#print axioms p3_holds
end Go.Proofs.Ytfjlbgegjjdflaa
