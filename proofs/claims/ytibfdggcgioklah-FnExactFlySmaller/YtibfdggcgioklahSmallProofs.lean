/- For any two tubes, of however many boxes and whatever numbers, FlySmaller of the program answers as its specification does; both arguments read behind the call as they read before it. No condition. -/
import Derived.Test.YtibfdggcgioklahSmallLaw
import Derived.Test.YtibfdggcgioklahBoxOpen
import Derived.ProofKit
namespace Go.Proofs.Ytibfdggcgioklah
open Go.ChangeShapes Go.WideShapes Go.ChangeAt Go.RowKit

theorem own_noneS : ownKnob Try.prog.godebug = none := by kernel_rfl
theorem laid_outS : laidOutB Try.prog = true := by kernel_rfl

theorem smallLaw_all (a a' : Option Addr) (b o cap b' o' cap' : Nat) (l m : List Bx) (w : World) (hl : l.length ≤ maxLen) (hm : m.length ≤ maxLen) (hs : BoxesAt w a b o l) (hs' : BoxesAt w a' b' o' m) :
    Calls Try.prog 7 #[.slice a l.length cap, .slice a' m.length cap'] w fun e w' => e = .returned (.bool true) ∧ Below w.heap.size w w' := by
  rcases leftB_or l.length m.length with h | ⟨h0, h1, h2, h3 | ⟨h3, h4⟩⟩
  · exact smallLaw_big1 a a' l.length cap m.length cap' w hl h
  · exact smallLaw_big2 a a' l.length cap m.length cap' w hl hm h0 h2 h3
  · exact smallLaw_any a a' b o cap b' o' cap' l m w h0 h1 h2 h3 h4 hs hs'

set_option maxRecDepth 100000 in
theorem small_lifted (os : Os) (started : os.Started) (H : Type) (enc : TypeId × Value → H) :
    ReturnsInHanded {} Try.checked os 7 .any (Rows.fnExactFlySmallerSpec.pre6 enc Try.prog Try.f7 Rows.fnExactFlySmallerRow.domain false) (Rows.fnExactFlySmallerSpec.post enc Try.prog Try.f7 false true false false) := by
  refine returnsInHanded_of_change (C := Try.checked) own_noneS started (by kernel_rfl) Try.func7
    (ChangeSpec.witness6 (enc := enc) (C := Try.checked) false ⟨#[], #[.slice none 0 0, .slice none 0 0], []⟩ 8 (by kernel_rfl) (by kernel_rfl) (by kernel_rfl) (by kernel_rfl)) ?_
  intro W base args ds gs before hval0 hW hcnd _
  have hval : ∀ (j : Nat) t v, Try.f7.params[j]? = some t → args[j]? = some v → Value.okWide Try.prog W .any base t v := hval0
  have hW' := hW
  obtain ⟨p, q, hA0, hV, rfl, hfz, hnd⟩ := hW
  have hA : DataW.TrodAll enc Try.prog W 0 (fun _ => true) true Try.f7.params.toList args.toList ds p := hA0
  rw [Try.params7] at hA hval
  obtain ⟨v0, v1, d0, d1, p0, p1, rfl, rfl, rfl, h0, h1⟩ := trodAll_two hA
  obtain ⟨rfl, rfl⟩ := trodVars_none hV
  have h0k := h0
  have h1k := h1
  clear hA0 hval0
  simp only [List.append_nil] at hW'
  have hlt0 : ∀ x ∈ p0, x.block < W.heap.size := fun x hx => by simpa using hW'.lt x (by simp [hx])
  have hlt1 : ∀ x ∈ p1, x.block < W.heap.size := fun x hx => by simpa using hW'.lt x (by simp [hx])
  have hargs0 : ∀ (W' : World), Below W.heap.size W W' → DataW.Trod enc Try.prog W' 0 (fun b => decide (b < W.heap.size)) true 47 v0 d0 p0 :=
    fun W' hn => Below.trod laid_outS (by kernel_rfl) (of_decide_eq_true (by kernel_rfl)) h0k hn hlt0
  have hargs1 : ∀ (W' : World), Below W.heap.size W W' → DataW.Trod enc Try.prog W' 0 (fun b => decide (b < W.heap.size)) true 47 v1 d1 p1 :=
    fun W' hn => Below.trod laid_outS (by kernel_rfl) (of_decide_eq_true (by kernel_rfl)) h1k hn hlt1
  obtain ⟨a, b0, o, cap, l, hv0, hl, hs⟩ := open_boxesArg (hval 0 47 v0 rfl rfl) h0
  obtain ⟨a', b1, o', cap', m, hv1, hm, hs'⟩ := open_boxesArg (hval 1 47 v1 rfl rfl) h1
  subst hv0 hv1
  refine (smallLaw_all a a' b0 o cap b1 o' cap' l m W hl hm hs hs').mono fun e W' ⟨he, hn⟩ => ?_
  subst he
  exact ⟨_, rfl, _, _, _, [], _, [], hW', trodAll_mk1 (shut_bool Try.underlying4 _), trodAll_mk2 (hargs0 _ hn) (hargs1 _ hn), rfl, hn.frame _, fun h => by cases h⟩

theorem flySmaller_holds : Rows.FnExactFlySmallerSaid :=
  OpenClaim.holds_of_wide 7 Try.f7 rfl rfl rfl rfl rfl rfl rfl ⟨rfl, rfl, rfl, rfl, rfl⟩ rfl rfl rfl rfl rfl (by kernel_rfl) Try.func7 (by kernel_rfl)
    (of_decide_eq_true (by kernel_rfl)) (by unfold Func.isWrapper; rw [if_neg (of_decide_eq_false (by kernel_rfl))]; exact ⟨rfl, rfl⟩)
    (fun os started H enc _ => small_lifted os started H enc)
#print axioms flySmaller_holds
end Go.Proofs.Ytibfdggcgioklah
