/- For every tube, of however many boxes and whatever numbers, every place and every tick, FlyWithin of the program answers as its specification does; all arguments read behind the call as they read before it. No condition. -/
import Derived.Test.YtibfdggcgioklahWithinLaw
import Derived.Test.YtibfdggcgioklahBoxOpen
import Derived.ProofKit
namespace Go.Proofs.Ytibfdggcgioklah
open Go.ChangeShapes Go.WideShapes Go.ChangeAt Go.RowKit

theorem own_noneW : ownKnob Try.prog.godebug = none := by kernel_rfl
theorem laid_outW : laidOutB Try.prog = true := by kernel_rfl

theorem withinLaw_all (a : Option Addr) (b o cap : Nat) (l : List Bx) (px py lev t : Int) (w : World) (hl : l.length ≤ maxLen) (hs : BoxesAt w a b o l) :
    Calls Try.prog 6 #[.slice a l.length cap, .int .i64 px, .int .i64 py, .int .i64 lev, .int .i64 t] w fun e w' => e = .returned (.bool true) ∧ Below w.heap.size w w' := by
  by_cases h : l.length ≤ 1048576
  · exact withinLaw_any a b o cap l px py lev t w h hs
  · exact withinLaw_big a l.length cap px py lev t w hl (by omega)

set_option maxRecDepth 100000 in
theorem within_lifted (os : Os) (started : os.Started) (H : Type) (enc : TypeId × Value → H) :
    ReturnsInHanded {} Try.checked os 6 .any (Rows.fnExactFlyWithinSpec.pre6 enc Try.prog Try.f6 Rows.fnExactFlyWithinRow.domain false) (Rows.fnExactFlyWithinSpec.post enc Try.prog Try.f6 false true false false) := by
  refine returnsInHanded_of_change (C := Try.checked) own_noneW started (by kernel_rfl) Try.func6
    (ChangeSpec.witness6 (enc := enc) (C := Try.checked) false ⟨#[], #[.slice none 0 0, .int .i64 0, .int .i64 0, .int .i64 0, .int .i64 0], []⟩ 8 (by kernel_rfl) (by kernel_rfl) (by kernel_rfl) (by kernel_rfl)) ?_
  intro W base args ds gs before hval0 hW hcnd _
  have hval : ∀ (j : Nat) t v, Try.f6.params[j]? = some t → args[j]? = some v → Value.okWide Try.prog W .any base t v := hval0
  have hW' := hW
  obtain ⟨p, q, hA0, hV, rfl, hfz, hnd⟩ := hW
  have hA : DataW.TrodAll enc Try.prog W 0 (fun _ => true) true Try.f6.params.toList args.toList ds p := hA0
  rw [Try.params6] at hA hval
  obtain ⟨v0, v1, v2, v3, v4, d0, d1, d2, d3, d4, p0, p1, p2, p3, p4, rfl, rfl, rfl, h0, h1, h2, h3, h4⟩ := trodAll_five hA
  obtain ⟨rfl, rfl⟩ := trodVars_none hV
  clear hA0 hval0
  simp only [List.append_nil] at hW'
  have hlt0 : ∀ x ∈ p0, x.block < W.heap.size := fun x hx => by simpa using hW'.lt x (by simp [hx])
  have hlt1 : ∀ x ∈ p1, x.block < W.heap.size := fun x hx => by simpa using hW'.lt x (by simp [hx])
  have hlt2 : ∀ x ∈ p2, x.block < W.heap.size := fun x hx => by simpa using hW'.lt x (by simp [hx])
  have hlt3 : ∀ x ∈ p3, x.block < W.heap.size := fun x hx => by simpa using hW'.lt x (by simp [hx])
  have hlt4 : ∀ x ∈ p4, x.block < W.heap.size := fun x hx => by simpa using hW'.lt x (by simp [hx])
  have hargs0 : ∀ (W' : World), Below W.heap.size W W' → DataW.Trod enc Try.prog W' 0 (fun b => decide (b < W.heap.size)) true 47 v0 d0 p0 :=
    fun W' hn => Below.trod laid_outW (by kernel_rfl) (of_decide_eq_true (by kernel_rfl)) h0 hn hlt0
  have hargs1 : ∀ (W' : World), Below W.heap.size W W' → DataW.Trod enc Try.prog W' 0 (fun b => decide (b < W.heap.size)) true 3 v1 d1 p1 :=
    fun W' hn => Below.trod laid_outW (by kernel_rfl) (of_decide_eq_true (by kernel_rfl)) h1 hn hlt1
  have hargs2 : ∀ (W' : World), Below W.heap.size W W' → DataW.Trod enc Try.prog W' 0 (fun b => decide (b < W.heap.size)) true 3 v2 d2 p2 :=
    fun W' hn => Below.trod laid_outW (by kernel_rfl) (of_decide_eq_true (by kernel_rfl)) h2 hn hlt2
  have hargs3 : ∀ (W' : World), Below W.heap.size W W' → DataW.Trod enc Try.prog W' 0 (fun b => decide (b < W.heap.size)) true 3 v3 d3 p3 :=
    fun W' hn => Below.trod laid_outW (by kernel_rfl) (of_decide_eq_true (by kernel_rfl)) h3 hn hlt3
  have hargs4 : ∀ (W' : World), Below W.heap.size W W' → DataW.Trod enc Try.prog W' 0 (fun b => decide (b < W.heap.size)) true 3 v4 d4 p4 :=
    fun W' hn => Below.trod laid_outW (by kernel_rfl) (of_decide_eq_true (by kernel_rfl)) h4 hn hlt4
  obtain ⟨a, b0, o, cap, l, hv0, hl, hs⟩ := open_boxesArg (hval 0 47 v0 rfl rfl) h0
  obtain ⟨px, hv1⟩ := okWide_int Try.underlying3 (hval 1 3 v1 rfl rfl)
  obtain ⟨py, hv2⟩ := okWide_int Try.underlying3 (hval 2 3 v2 rfl rfl)
  obtain ⟨lev, hv3⟩ := okWide_int Try.underlying3 (hval 3 3 v3 rfl rfl)
  obtain ⟨t, hv4⟩ := okWide_int Try.underlying3 (hval 4 3 v4 rfl rfl)
  subst hv0 hv1 hv2 hv3 hv4
  refine (withinLaw_all a b0 o cap l px py lev t W hl hs).mono fun e W' ⟨he, hn⟩ => ?_
  subst he
  exact ⟨_, rfl, _, _, _, [], _, [], hW', trodAll_mk1 (shut_bool Try.underlying4 _), ⟨p0, _, hargs0 _ hn, trodAll_mk4 (hargs1 _ hn) (hargs2 _ hn) (hargs3 _ hn) (hargs4 _ hn), rfl⟩, rfl, hn.frame _, fun h => by cases h⟩

theorem flyWithin_holds : Rows.FnExactFlyWithinSaid :=
  OpenClaim.holds_of_wide 6 Try.f6 rfl rfl rfl rfl rfl rfl rfl ⟨rfl, rfl, rfl, rfl, rfl⟩ rfl rfl rfl rfl rfl (by kernel_rfl) Try.func6 (by kernel_rfl)
    (of_decide_eq_true (by kernel_rfl)) (by unfold Func.isWrapper; rw [if_neg (of_decide_eq_false (by kernel_rfl))]; exact ⟨rfl, rfl⟩)
    (fun os started H enc _ => within_lifted os started H enc)
#print axioms flyWithin_holds
end Go.Proofs.Ytibfdggcgioklah
