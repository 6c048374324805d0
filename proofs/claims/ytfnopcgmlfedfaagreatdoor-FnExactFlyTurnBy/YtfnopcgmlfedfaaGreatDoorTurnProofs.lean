/- For every two paths, of however many steps and whatever numbers, every tick, FlyTurnBy of the program answers as its specification does; it writes into no argument. The sentinel errNothingLeft is as the program's text lays it (a tied card, over a copy of the project that is pruned of its tests); no other condition. -/
import Derived.SevenTiedAt
import Derived.Test.YtfnopcgmlfedfaaGreatDoorCards
import Derived.Test.YtfnopcgmlfedfaaGreatDoorTie
import Derived.Test.YtfnopcgmlfedfaaGreatDoorJ02
import Derived.Test.YtfnopcgmlfedfaaGreatDoorJ04
import Derived.Test.YtfnopcgmlfedfaaGreatDoorJ05
namespace Go.Proofs.YtfnopcgmlfedfaaGreatDoor
open Go.ChangeShapes Go.WideShapes Go.ChangeAt Go.RowKit

theorem rest_said : RestISaid := fun q s fr b st en nw a b0 o cap l p w hl hs hcap hg => flyRestI_any spans_said q s fr b st en nw a b0 o cap l p w hl hs hcap hg

/-- The tick that there is, if there is one. -/
noncomputable def turnR (g : Int → Bool) (f0 : Int) : Int := Classical.epsilon (TurnIs g f0)
theorem turnR_is {g : Int → Bool} {f0 r : Int} (h : TurnIs g f0 r) : r = turnR g f0 := h.one (Classical.epsilon_spec ⟨r, h⟩)
theorem turnLaw_all (q s fr b : Int) (a : Option Addr) (b0 o cap : Nat) (l : List Stp) (q' s' fr' b' : Int) (a' : Option Addr) (b0' o' cap' : Nat) (l' : List Stp) (f0 : Int) (p : Addr) (w : World) (hl : l.length ≤ maxLen) (hl' : l'.length ≤ maxLen) (hs : StepsAt w a b0 o l) (hs' : StepsAt w a' b0' o' l') (hg : Sent w p) :
    Calls Tryz.prog 3 #[.agg #[.int .i64 q, .int .i64 s, .slice a l.length cap, .int .i64 fr, .int .i64 b], .agg #[.int .i64 q', .int .i64 s', .slice a' l'.length cap', .int .i64 fr', .int .i64 b'], .int .i64 f0] w fun e w' => e = .returned (.bool true) ∧ Below w.heap.size w w' :=
  turnLaw_any (turnR (turnG q s fr b l q' s' fr' b' l') f0) q s fr b a b0 o cap l q' s' fr' b' a' b0' o' cap' l' f0 w hl hl' hs hs'
    (fun h1 h2 g g' W hW hW' => (flyTurnS_any q s fr b _ g 0 _ l q' s' fr' b' _ g' 0 _ l' f0 W h1 h2 hW hW' (Nat.le_refl _) (Nat.le_refl _)).mono fun e w' ⟨r, he, hr, hb⟩ => ⟨by rw [he, turnR_is hr], hb⟩)
    (fun h1 h2 g g' W hW hW' hb => (flyTurnI_any spans_said rest_said q s fr b _ g 0 _ l q' s' fr' b' _ g' 0 _ l' f0 p W h1 h2 hW hW' (Nat.le_refl _) (Nat.le_refl _) (hg.below hb)).mono fun e w' ⟨r, he, hr, hb⟩ => ⟨by rw [he, turnR_is hr], hb⟩)

set_option maxRecDepth 100000 in
theorem turn_lifted (os : Os) (started : os.Started) (H : Type) (enc : TypeId × Value → H) :
    ReturnsInHanded {} Tryz.checked os 3 .any (fun w args => (Rows.fnExactFlyTurnBySpec.pre enc Tryz.prog Tryz.f3 [] false w args ∧ laidMetH Tryz.prog laidL w) ∧ sizedMet enc Tryz.prog Tryz.f3 (OpenSpec.ofChange Rows.fnExactFlyTurnBySpec) false w args)
      (Rows.fnExactFlyTurnBySpec.post enc Tryz.prog Tryz.f3 false true false false) := by
  refine returnsInHanded_of_change_and (C := Tryz.checked) (X := fun w _ => laidMetH Tryz.prog laidL w) (fun _ _ _ hh h => h.of_heap hh) own_none started (by kernel_rfl) Tryz.func3
    (ChangeSpec.witness_shaped (enc := enc) (C := Tryz.checked) (os := os) (X := fun w _ => laidMetH Tryz.prog laidL w) false (World.doorLaid Tryz.prog 400 os) #[.agg #[.int .i64 0, .int .i64 0, .slice none 0 0, .int .i64 0, .int .i64 0], .agg #[.int .i64 0, .int .i64 0, .slice none 0 0, .int .i64 0, .int .i64 0], .int .i64 0] 8 rfl (World.shaped_of_RefB (by kernel_rfl) (by kernel_rfl)) (by kernel_rfl) (by kernel_rfl) (by kernel_rfl) (door_met os _)) ?_
  intro W base args ds gs before hval0 hW _ _ hL _
  have hval : ∀ (j : Nat) t v, Tryz.f3.params[j]? = some t → args[j]? = some v → Value.okWide Tryz.prog W .any base t v := hval0
  have hW' := hW
  obtain ⟨p, q, hA0, hV0, rfl, hfz, hnd⟩ := hW
  have hA : DataW.TrodAll enc Tryz.prog W 0 (fun _ => true) true Tryz.f3.params.toList args.toList ds p := hA0
  have hV : DataW.TrodVars enc Tryz.prog W (fun _ => true) [varName] gs q := hV0
  rw [Tryz.params3] at hA hval
  obtain ⟨v0, v1, v2, d0, d1, d2, p0, p1, p2, rfl, rfl, rfl, h0, h1, h2⟩ := trodAll_three hA
  obtain ⟨sp, hv⟩ := of_laid hL
  obtain ⟨rfl, rfl⟩ := hV.unique (vars_read1 enc gvar gvarType Tryz.underlying134 hv trivial _)
  have h0k := h0
  have h1k := h1
  clear hA0 hV0 hval0
  have hg := sent_of hv
  have hlt0 : ∀ x ∈ p0, x.block < W.heap.size := fun x hx => by simpa using hW'.lt x (by simp [hx])
  have hlt1 : ∀ x ∈ p1, x.block < W.heap.size := fun x hx => by simpa using hW'.lt x (by simp [hx])
  have hargs0 : ∀ (W' : World), Below W.heap.size W W' → DataW.Trod enc Tryz.prog W' 0 (fun b => decide (b < W.heap.size)) true 26 v0 d0 p0 :=
    fun W' hn => Below.trod laid_out (by kernel_rfl) (of_decide_eq_true (by kernel_rfl)) h0k hn hlt0
  have hargs1 : ∀ (W' : World), Below W.heap.size W W' → DataW.Trod enc Tryz.prog W' 0 (fun b => decide (b < W.heap.size)) true 26 v1 d1 p1 :=
    fun W' hn => Below.trod laid_out (by kernel_rfl) (of_decide_eq_true (by kernel_rfl)) h1k hn hlt1
  obtain ⟨q, s, fr, b, a, b0, o, cap, l, hv0, hl, hs⟩ := open_pathArg (hval 0 26 v0 rfl rfl) h0
  obtain ⟨q', s', fr', b', a', b0', o', cap', l', hv1, hl', hs'⟩ := open_pathArg (hval 1 26 v1 rfl rfl) h1
  obtain ⟨n2, rfl, rfl, rfl, hw2⟩ := open_int Tryz.underlying3 (hval 2 3 v2 rfl rfl) h2
  subst hv0 hv1
  refine (turnLaw_all q s fr b a b0 o cap l q' s' fr' b' a' b0' o' cap' l' n2 sp W hl hl' hs hs' hg).mono fun e W' ⟨he, hn⟩ => ?_
  subst he
  exact ⟨_, rfl, _, _, _, [], _, [.cell 0 0], hW', trodAll_mk1 (shut_bool Tryz.underlying4 _), trodAll_mk3 (hargs0 _ hn) (hargs1 _ hn) (shut_int Tryz.underlying3 hw2), vars_read1 enc gvar gvarType Tryz.underlying134 (var?_below hn gvar hg.lt hv) trivial _, hn.frame _, fun h => by cases h⟩

theorem flyTurnBy_holds : Rows.FnExactFlyTurnBySaid :=
  OpenClaim.holds_of_wide 3 Tryz.f3 rfl rfl rfl rfl rfl rfl rfl ⟨rfl, rfl, rfl, rfl, rfl⟩ rfl rfl rfl rfl rfl (by kernel_rfl) Tryz.func3 (by kernel_rfl)
    (of_decide_eq_true (by kernel_rfl)) (by unfold Func.isWrapper; rw [if_neg (of_decide_eq_false (by kernel_rfl))]; exact ⟨rfl, rfl⟩)
    (fun os started H enc _ => turn_lifted os started H enc)

/-- The tied card. -/
theorem flyTurnBy_card : Rows.FnExactFlyTurnByCardSaid :=
  Claim7.holds_tied_plain_at .later [] [.sentinel] true _ true
    flyTurnBy_holds (fun _ h => by cases h) (by kernel_rfl) (fun _ h => by cases h) fnExactFlyTurnBy_row_tie rfl ⟨rfl, rfl⟩ (by kernel_rfl) rfl
    (fun f fn hf hfn => by
      obtain rfl : f = 3 := Option.some.inj ((show Tryz.prog.funcNamed "loop.example/laplink/laws.FnExactFlyTurnBy" = some 3 by kernel_rfl).symm.trans hf) |>.symm
      obtain rfl : fn = Tryz.f3 := (Option.some.inj (Tryz.func3.symm.trans hfn)).symm
      exact ⟨by kernel_rfl, fun j t ht => by
        rw [Tryz.params3] at ht
        have hm : t ∈ [26, 26, 3] := by simpa using Array.mem_of_getElem? ht
        have hall : ([26, 26, 3].all fun u => !Tryz.prog.wantsStandIn u) = true := by kernel_rfl
        exact (show Tryz.prog.wantsStandIn t = false by simpa using List.all_eq_true.1 hall t hm)⟩)
    (by kernel_rfl)
#print axioms flyTurnBy_card
end Go.Proofs.YtfnopcgmlfedfaaGreatDoor
