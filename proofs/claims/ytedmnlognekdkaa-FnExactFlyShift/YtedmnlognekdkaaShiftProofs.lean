/- For every path, of however many steps and whatever numbers, and every number of ticks, FlyShift of the program answers as its specification does, field by field; it writes into no argument, and its answer owns its memory. No condition. -/
import Derived.ProofKit
import Derived.Test.YtedmnlognekdkaaJ02
import Derived.Test.YtedmnlognekdkaaJ03
namespace Go.Proofs.Ytedmnlognekdkaa
open Go.ChangeShapes Go.WideShapes Go.ChangeAt Go.RowKit

theorem own_none : ownKnob Try.prog.godebug = none := by kernel_rfl
theorem laid_out : laidOutB Try.prog = true := by kernel_rfl

theorem shiftA_len (q s fr b : Int) (l : List Stp) (d : Int) (hl : l.length ≤ 1048576) : (shiftA q s fr b l d).l.length ≤ 1048576 := by
  unfold shiftA
  split
  · simpa [laterL] using hl
  · simp [Ans.no]

theorem shiftLaw_all (q s fr b d : Int) (a : Option Addr) (b0 o cap : Nat) (l : List Stp) (w : World) (hl : l.length ≤ maxLen) (hs : StepsAt w a b0 o l) :
    Calls Try.prog 3 #[.agg #[.int .i64 q, .int .i64 s, .slice a l.length cap, .int .i64 fr, .int .i64 b], .int .i64 d] w fun e w' => e = .returned (.bool true) ∧ Below w.heap.size w w' := by
  by_cases h : l.length ≤ 1048576
  · exact shiftLaw_any (shiftA q s fr b l d) q s fr b d a b0 o cap l w h hs (shiftA_len q s fr b l d h) (fun a b0 o cap W hW => flyShiftS_any q s fr b d a b0 o cap l W h hW) (fun a b0 o cap W hW => flyShiftI_any q s fr b d a b0 o cap l W h hW)
  · exact shiftLaw_big q s fr b d a l.length cap w hl (by omega)

set_option maxRecDepth 100000 in
theorem shift_lifted (os : Os) (started : os.Started) (H : Type) (enc : TypeId × Value → H) :
    ReturnsInHanded {} Try.checked os 3 .any (Rows.fnExactFlyShiftSpec.pre6 enc Try.prog Try.f3 Rows.fnExactFlyShiftRow.domain false) (Rows.fnExactFlyShiftSpec.post enc Try.prog Try.f3 false true false false) := by
  refine returnsInHanded_of_change (C := Try.checked) own_none started (by kernel_rfl) Try.func3
    (ChangeSpec.witness6 (enc := enc) (C := Try.checked) false ⟨#[], #[.agg #[.int .i64 0, .int .i64 0, .slice none 0 0, .int .i64 0, .int .i64 0], .int .i64 0], []⟩ 8 (by kernel_rfl) (by kernel_rfl) (by kernel_rfl) (by kernel_rfl)) ?_
  intro W base args ds gs before hval0 hW hcnd _
  have hval : ∀ (j : Nat) t v, Try.f3.params[j]? = some t → args[j]? = some v → Value.okWide Try.prog W .any base t v := hval0
  have hW' := hW
  obtain ⟨p, q, hA0, hV, rfl, hfz, hnd⟩ := hW
  have hA : DataW.TrodAll enc Try.prog W 0 (fun _ => true) true Try.f3.params.toList args.toList ds p := hA0
  rw [Try.params3] at hA hval
  obtain ⟨v0, v1, d0, d1, p0, p1, rfl, rfl, rfl, h0, h1⟩ := trodAll_two hA
  obtain ⟨rfl, rfl⟩ := trodVars_none hV
  have h0k := h0
  clear hA0 hval0
  simp only [List.append_nil] at hW'
  have hlt0 : ∀ x ∈ p0, x.block < W.heap.size := fun x hx => by simpa using hW'.lt x (by simp [hx])
  have hargs0 : ∀ (W' : World), Below W.heap.size W W' → DataW.Trod enc Try.prog W' 0 (fun b => decide (b < W.heap.size)) true 26 v0 d0 p0 :=
    fun W' hn => Below.trod laid_out (by kernel_rfl) (of_decide_eq_true (by kernel_rfl)) h0k hn hlt0
  obtain ⟨q, s, fr, b, a, b0, o, cap, l, hv0, hl, hs⟩ := open_pathArg (hval 0 26 v0 rfl rfl) h0
  obtain ⟨n1, rfl, rfl, rfl, hw1⟩ := open_int Try.underlying3 (hval 1 3 v1 rfl rfl) h1
  subst hv0
  refine (shiftLaw_all q s fr b n1 a b0 o cap l W hl hs).mono fun e W' ⟨he, hn⟩ => ?_
  subst he
  exact ⟨_, rfl, _, _, _, [], _, [], hW', trodAll_mk1 (shut_bool Try.underlying4 _), trodAll_mk2 (hargs0 _ hn) (shut_int Try.underlying3 hw1), rfl, hn.frame _, fun h => by cases h⟩

theorem flyShift_holds : Rows.FnExactFlyShiftSaid :=
  OpenClaim.holds_of_wide 3 Try.f3 rfl rfl rfl rfl rfl rfl rfl ⟨rfl, rfl, rfl, rfl, rfl⟩ rfl rfl rfl rfl rfl (by kernel_rfl) Try.func3 (by kernel_rfl)
    (of_decide_eq_true (by kernel_rfl)) (by unfold Func.isWrapper; rw [if_neg (of_decide_eq_false (by kernel_rfl))]; exact ⟨rfl, rfl⟩)
    (fun os started H enc _ => shift_lifted os started H enc)
#print axioms flyShift_holds
end Go.Proofs.Ytedmnlognekdkaa
