/- For every code, of whatever length and bytes, the two paths and the tick that are drawn from it meet the law on turning: the program's FlyTurnBy and FlyShared answer as the specification's; at each tick that the law looks at, from the drawn one up to the answer, somebody may be under way and all who may be can turn, and a tick later they can't; and where the answer is -1, they can't at the drawn tick. The sentinel errNothingLeft is as the program's text lays it (a tied card, over a copy of the project that is pruned of its tests); no other condition. -/
import Derived.SevenTiedAt
import Derived.Test.YtijcdikekgmfoaaGreatDoorCards
import Derived.Test.YtijcdikekgmfoaaGreatDoorTie
import Derived.Test.YtijcdikekgmfoaaGreatDoorJ01
import Derived.Test.YtijcdikekgmfoaaGreatDoorJ09
import Derived.Test.YtijcdikekgmfoaaGreatDoorFlyRestI
import Derived.Test.YtijcdikekgmfoaaGreatDoorJ07
namespace Go.Proofs.YtijcdikekgmfoaaGreatDoor
open Go.ChangeShapes Go.WideShapes Go.ChangeAt Go.RowKit

theorem rest_said6 : RestISaid := fun q s fr b st en nw a b0 o cap l p w hl hs hcap hg => flyRestI_any spans_said q s fr b st en nw a b0 o cap l p w hl hs hcap hg
theorem p6_all (a : Option Addr) (cb co cap : Nat) (zs : List Int) (p : Addr) (w : World) (hl : zs.length ≤ maxLen) (hc : zs.length ≤ cap) (hz : BytesAt w a cb co zs) (hg : Sent w p) :
    Calls Tryz.prog 5 #[.slice a zs.length cap] w fun e w' => e = .returned (.bool true) ∧ Below w.heap.size w w' := by
  by_cases h : zs.length ≤ 1048576
  · exact p6_any spans_said rest_said6 a cb co cap zs p w hz h hc hg
  · exact p6_big a zs.length cap w hl (by omega)

set_option maxRecDepth 100000 in
theorem p6_lifted (os : Os) (started : os.Started) (H : Type) (enc : TypeId × Value → H) :
    ReturnsInHanded {} Tryz.checked os 5 .any (fun w args => (Rows.fnFlyTurnSpec.pre enc Tryz.prog Tryz.f5 [] false w args ∧ laidMetH Tryz.prog laidL w) ∧ sizedMet enc Tryz.prog Tryz.f5 (OpenSpec.ofChange Rows.fnFlyTurnSpec) false w args)
      (Rows.fnFlyTurnSpec.post enc Tryz.prog Tryz.f5 false true false false) := by
  refine returnsInHanded_of_change_and (C := Tryz.checked) (X := fun w _ => laidMetH Tryz.prog laidL w) (fun _ _ _ hh h => h.of_heap hh) own_none started (by kernel_rfl) Tryz.func5
    (ChangeSpec.witness_shaped (enc := enc) (C := Tryz.checked) (os := os) (X := fun w _ => laidMetH Tryz.prog laidL w) false (World.doorLaid Tryz.prog 400 os) #[.slice none 0 0] 8 rfl (World.shaped_of_RefB (by kernel_rfl) (by kernel_rfl)) (by kernel_rfl) (by kernel_rfl) (by kernel_rfl) (door_met os _)) ?_
  intro W base args ds gs before hval0 hW _ _ hL _
  have hval : ∀ (j : Nat) t v, Tryz.f5.params[j]? = some t → args[j]? = some v → Value.okWide Tryz.prog W .any base t v := hval0
  have hW' := hW
  obtain ⟨p, q, hA0, hV0, rfl, hfz, hnd⟩ := hW
  have hA : DataW.TrodAll enc Tryz.prog W 0 (fun _ => true) true Tryz.f5.params.toList args.toList ds p := hA0
  have hV : DataW.TrodVars enc Tryz.prog W (fun _ => true) [varName] gs q := hV0
  rw [Tryz.params5] at hA hval
  obtain ⟨v0, d0, rfl, rfl, h0⟩ := trodAll_one hA
  obtain ⟨sp, hv⟩ := of_laid hL
  obtain ⟨rfl, rfl⟩ := hV.unique (vars_read1 enc gvar gvarType Tryz.underlying96 hv trivial _)
  have h0k := h0
  clear hA0 hV0 hval0
  have hg := sent_of hv
  have hlt0 : ∀ x ∈ p, x.block < W.heap.size := fun x hx => by simpa using hW'.lt x (by simp [hx])
  have hargs0 : ∀ (W' : World), Below W.heap.size W W' → DataW.Trod enc Tryz.prog W' 0 (fun b => decide (b < W.heap.size)) true 22 v0 d0 p :=
    fun W' hn => Below.trod laid_out (by kernel_rfl) (of_decide_eq_true (by kernel_rfl)) h0k hn hlt0
  obtain ⟨a, cb, co, cap, zs, hv0, hl, hc, hz⟩ := open_codeArg (hval 0 22 v0 rfl rfl) h0
  subst hv0
  refine (p6_all a cb co cap zs sp W hl hc hz hg).mono fun e W' ⟨he, hn⟩ => ?_
  subst he
  exact ⟨_, rfl, _, _, _, [], _, [.cell 0 0], hW', trodAll_mk1 (shut_bool Tryz.underlying4 _), trodAll_mk1 (hargs0 _ hn), vars_read1 enc gvar gvarType Tryz.underlying96 (var?_below hn gvar hg.lt hv) trivial _, hn.frame _, fun h => by cases h⟩

theorem p6_holds : Rows.FnFlyTurnSaid :=
  OpenClaim.holds_of_wide 5 Tryz.f5 rfl rfl rfl rfl rfl rfl rfl ⟨rfl, rfl, rfl, rfl, rfl⟩ rfl rfl rfl rfl rfl (by kernel_rfl) Tryz.func5 (by kernel_rfl)
    (of_decide_eq_true (by kernel_rfl)) (by unfold Func.isWrapper; rw [if_neg (of_decide_eq_false (by kernel_rfl))]; exact ⟨rfl, rfl⟩)
    (fun os started H enc _ => p6_lifted os started H enc)

/-- The tied card. -/
theorem p6_card : Rows.FnFlyTurnCardSaid :=
  Claim7.holds_tied_plain_at .later [] [.sentinel] true _ true
    p6_holds (fun _ h => by cases h) (by kernel_rfl) (fun _ h => by cases h) fnFlyTurn_row_tie rfl ⟨rfl, rfl⟩ (by kernel_rfl) rfl
    (fun f fn hf hfn => by
      obtain rfl : f = 5 := Option.some.inj ((show Tryz.prog.funcNamed "loop.example/laplink/laws.FnFlyTurn" = some 5 by kernel_rfl).symm.trans hf) |>.symm
      obtain rfl : fn = Tryz.f5 := (Option.some.inj (Tryz.func5.symm.trans hfn)).symm
      exact ⟨by kernel_rfl, fun j t ht => by
        rw [Tryz.params5] at ht
        have hm : t ∈ [22] := by simpa using Array.mem_of_getElem? ht
        have hall : ([22].all fun u => !Tryz.prog.wantsStandIn u) = true := by kernel_rfl
        exact (show Tryz.prog.wantsStandIn t = false by simpa using List.all_eq_true.1 hall t hm)⟩)
    (by kernel_rfl)
#print axioms p6_card
end Go.Proofs.YtijcdikekgmfoaaGreatDoor
