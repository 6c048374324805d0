/- For every book, name, path and tick LinkFree of the program answers as its specification does; all arguments read behind the call as they read before it. No condition. -/
import Derived.Test.YtfmdejilhbankaaGreatJ12
import Derived.Test.YtfmdejilhbankaaGreatJ10
import Derived.Test.YtfmdejilhbankaaGreatJ11
import Derived.ProofKit
namespace Go.Proofs.YtfmdejilhbankaaGreat
open Go.ChangeShapes Go.WideShapes Go.ChangeAt Go.RowKit

theorem own_linkFree : ownKnob Tryz.prog.godebug = none := by kernel_rfl
theorem laid_linkFree : laidOutB Tryz.prog = true := by kernel_rfl

set_option maxRecDepth 100000 in
theorem linkFree_lifted (os : Os) (started : os.Started) (H : Type) (enc : TypeId × Value → H) :
    ReturnsInHanded {} Tryz.checked os 4 .any (Rows.fnExactLinkFreeSpec.pre6 enc Tryz.prog Tryz.f4 Rows.fnExactLinkFreeRow.domain false) (Rows.fnExactLinkFreeSpec.post enc Tryz.prog Tryz.f4 false true false false) := by
  refine returnsInHanded_of_change (C := Tryz.checked) own_linkFree started (by kernel_rfl) Tryz.func4
    (ChangeSpec.witness6 (enc := enc) (C := Tryz.checked) false ⟨#[], #[.agg #[.int .i64 0, .slice none 0 0], .string ⟨#[]⟩, .agg #[.int .i64 0, .int .i64 0, .slice none 0 0, .int .i64 0, .int .i64 0], .int .i64 0], []⟩ 8 (by kernel_rfl) (by kernel_rfl) (by kernel_rfl) (by kernel_rfl)) ?_
  intro W base args ds gs before hval0 hW hcnd _
  have hval : ∀ (j : Nat) t v, Tryz.f4.params[j]? = some t → args[j]? = some v → Value.okWide Tryz.prog W .any base t v := hval0
  have hW' := hW
  obtain ⟨p, q, hA0, hV, rfl, hfz, hnd⟩ := hW
  have hA : DataW.TrodAll enc Tryz.prog W 0 (fun _ => true) true Tryz.f4.params.toList args.toList ds p := hA0
  rw [Tryz.params4] at hA hval
  obtain ⟨v0, v1, v2, v3, d0, d1, d2, d3, p0, p1, p2, p3, rfl, rfl, rfl, h0, h1, h2, h3⟩ := trodAll_four hA
  obtain ⟨rfl, rfl⟩ := trodVars_none hV
  have h0k := h0
  have h1k := h1
  have h2k := h2
  have h3k := h3
  clear hA0 hval0
  simp only [List.append_nil] at hW'
  have hlt0 : ∀ x ∈ p0, x.block < W.heap.size := fun x hx => by simpa using hW'.lt x (by simp [hx])
  have hargs0 : ∀ (W' : World), Below W.heap.size W W' → DataW.Trod enc Tryz.prog W' 0 (fun b => decide (b < W.heap.size)) true 24 v0 d0 p0 :=
    fun W' hn => Below.trod laid_linkFree (by kernel_rfl) (of_decide_eq_true (by kernel_rfl)) h0k hn hlt0
  have hlt1 : ∀ x ∈ p1, x.block < W.heap.size := fun x hx => by simpa using hW'.lt x (by simp [hx])
  have hargs1 : ∀ (W' : World), Below W.heap.size W W' → DataW.Trod enc Tryz.prog W' 0 (fun b => decide (b < W.heap.size)) true 9 v1 d1 p1 :=
    fun W' hn => Below.trod laid_linkFree (by kernel_rfl) (of_decide_eq_true (by kernel_rfl)) h1k hn hlt1
  have hlt2 : ∀ x ∈ p2, x.block < W.heap.size := fun x hx => by simpa using hW'.lt x (by simp [hx])
  have hargs2 : ∀ (W' : World), Below W.heap.size W W' → DataW.Trod enc Tryz.prog W' 0 (fun b => decide (b < W.heap.size)) true 37 v2 d2 p2 :=
    fun W' hn => Below.trod laid_linkFree (by kernel_rfl) (of_decide_eq_true (by kernel_rfl)) h2k hn hlt2
  have hlt3 : ∀ x ∈ p3, x.block < W.heap.size := fun x hx => by simpa using hW'.lt x (by simp [hx])
  have hargs3 : ∀ (W' : World), Below W.heap.size W W' → DataW.Trod enc Tryz.prog W' 0 (fun b => decide (b < W.heap.size)) true 3 v3 d3 p3 :=
    fun W' hn => Below.trod laid_linkFree (by kernel_rfl) (of_decide_eq_true (by kernel_rfl)) h3k hn hlt3
  obtain ⟨s0, hv0, hn0, ht0, hs0, hr0⟩ := open_bookArgR (hval 0 24 v0 rfl rfl) h0
  obtain ⟨s1, hv1, hn1⟩ := open_strArg (hval 1 9 v1 rfl rfl) h1
  obtain ⟨q2, z2, fr2, b2, a2, c2, o2, cap2, l2, hv2, hl2, hs2⟩ := open_pathArg (hval 2 37 v2 rfl rfl) h2
  obtain ⟨n3, hv3⟩ := okWide_int Tryz.underlying3 (hval 3 3 v3 rfl rfl)
  subst hv0 hv1 hv2 hv3
  refine ((fun t nm q z fr b a c o cap l n w hn ht hs hr hl hp => freeLaw_all t nm ⟨q, z, fr, b, a, c, o, cap, l⟩ n w (spans_any walk_any follow_any) hr hn ht hl hs hp) s0 s1 q2 z2 fr2 b2 a2 c2 o2 cap2 l2 n3 W hn0 ht0 hs0 hr0 hl2 hs2).mono fun e W' ⟨he, hn⟩ => ?_
  subst he
  exact ⟨_, rfl, _, _, _, [], _, [], hW', trodAll_mk1 (shut_bool Tryz.underlying4 _), trodAll_mk4 (hargs0 _ hn) (hargs1 _ hn) (hargs2 _ hn) (hargs3 _ hn), rfl, hn.frame _, fun h => by cases h⟩

theorem linkFree_holds : Rows.FnExactLinkFreeSaid :=
  OpenClaim.holds_of_wide 4 Tryz.f4 rfl rfl rfl rfl rfl rfl rfl ⟨rfl, rfl, rfl, rfl, rfl⟩ rfl rfl rfl rfl rfl (by kernel_rfl) Tryz.func4 (by kernel_rfl)
    (of_decide_eq_true (by kernel_rfl)) (by unfold Func.isWrapper; rw [if_neg (of_decide_eq_false (by kernel_rfl))]; exact ⟨rfl, rfl⟩)
    (fun os started H enc _ => linkFree_lifted os started H enc)
#print axioms linkFree_holds
end Go.Proofs.YtfmdejilhbankaaGreat
