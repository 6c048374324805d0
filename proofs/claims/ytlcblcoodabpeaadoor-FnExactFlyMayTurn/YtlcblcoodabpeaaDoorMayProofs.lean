/- For every two paths, of however many steps and whatever numbers, every step and every tick, FlyMayTurn of the program answers as its specification does; it writes into no argument. The sentinel errNothingLeft is as the program's text lays it (a tied card, over a copy of the project that is pruned of its tests); no other condition. -/
import Derived.Test.YtlcblcoodabpeaaDoorCards
import Derived.Test.YtlcblcoodabpeaaDoorTie
import Derived.Test.YtlcblcoodabpeaaDoorJ05
import Derived.Test.YtlcblcoodabpeaaDoorMayLaw
import Derived.Test.YtlcblcoodabpeaaDoorMaySpec
import Derived.Test.YtlcblcoodabpeaaDoorMayImpl
import Derived.Test.YtlcblcoodabpeaaDoorJ07
import Derived.SevenTiedAt
namespace Go.Proofs.YtlcblcoodabpeaaDoor
open Go.ChangeShapes Go.WideShapes Go.ChangeAt Go.RowKit

theorem rest_said : RestISaid := fun q s fr b st en nw a b0 o cap l p w hl hs hcap hg => flyRestI_any spans_said q s fr b st en nw a b0 o cap l p w hl hs hcap hg

theorem mayLaw_all (q s fr b : Int) (a : Option Addr) (b0 o cap : Nat) (l : List Stp) (q' s' fr' b' : Int) (a' : Option Addr) (b0' o' cap' : Nat) (l' : List Stp) (st nw : Int) (p : Addr) (w : World) (hl : l.length ≤ maxLen) (hl' : l'.length ≤ maxLen) (hs : StepsAt w a b0 o l) (hs' : StepsAt w a' b0' o' l') (hg : Sent w p) :
    Calls Tryd.prog 5 #[.agg #[.int .i64 q, .int .i64 s, .slice a l.length cap, .int .i64 fr, .int .i64 b], .agg #[.int .i64 q', .int .i64 s', .slice a' l'.length cap', .int .i64 fr', .int .i64 b'], .int .i64 st, .int .i64 nw] w fun e w' => e = .returned (.bool true) ∧ Below w.heap.size w w' :=
  mayLaw_any (mayB q s fr b l q' s' fr' b' l' st nw) q s fr b a b0 o cap l q' s' fr' b' a' b0' o' cap' l' st nw w hl hl' hs hs'
    (fun h1 h2 g g' W hW hW' => flyMayS_any q s fr b _ g 0 _ l q' s' fr' b' _ g' 0 _ l' st nw W h1 h2 hW hW' (Nat.le_refl _) (Nat.le_refl _))
    (fun h1 h2 g g' W hW hW' hb => flyMayI_any spans_said rest_said q s fr b _ g 0 _ l q' s' fr' b' _ g' 0 _ l' st nw p W h1 h2 hW hW' (Nat.le_refl _) (Nat.le_refl _) (hg.below hb))

set_option maxRecDepth 100000 in
theorem may_lifted (os : Os) (started : os.Started) (H : Type) (enc : TypeId × Value → H) :
    ReturnsInHanded {} Tryd.checked os 5 .any (fun w args => (Rows.fnExactFlyMayTurnSpec.pre enc Tryd.prog Tryd.f5 [] false w args ∧ laidMetH Tryd.prog laidL w) ∧ sizedMet enc Tryd.prog Tryd.f5 (OpenSpec.ofChange Rows.fnExactFlyMayTurnSpec) false w args)
      (Rows.fnExactFlyMayTurnSpec.post enc Tryd.prog Tryd.f5 false true false false) := by
  refine returnsInHanded_of_change_and (C := Tryd.checked) (X := fun w _ => laidMetH Tryd.prog laidL w) (fun _ _ _ hh h => h.of_heap hh) own_none started (by kernel_rfl) Tryd.func5
    (ChangeSpec.witness_shaped (enc := enc) (C := Tryd.checked) (os := os) (X := fun w _ => laidMetH Tryd.prog laidL w) false (World.doorLaid Tryd.prog 400 os) #[.agg #[.int .i64 0, .int .i64 0, .slice none 0 0, .int .i64 0, .int .i64 0], .agg #[.int .i64 0, .int .i64 0, .slice none 0 0, .int .i64 0, .int .i64 0], .int .i64 0, .int .i64 0] 8 rfl (World.shaped_of_RefB (by kernel_rfl) (by kernel_rfl)) (by kernel_rfl) (by kernel_rfl) (by kernel_rfl) (door_met os _)) ?_
  intro W base args ds gs before hval0 hW _ _ hL _
  have hval : ∀ (j : Nat) t v, Tryd.f5.params[j]? = some t → args[j]? = some v → Value.okWide Tryd.prog W .any base t v := hval0
  have hW' := hW
  obtain ⟨p, q, hA0, hV0, rfl, hfz, hnd⟩ := hW
  have hA : DataW.TrodAll enc Tryd.prog W 0 (fun _ => true) true Tryd.f5.params.toList args.toList ds p := hA0
  have hV : DataW.TrodVars enc Tryd.prog W (fun _ => true) [varName] gs q := hV0
  rw [Tryd.params5] at hA hval
  obtain ⟨v0, v1, v2, v3, d0, d1, d2, d3, p0, p1, p2, p3, rfl, rfl, rfl, h0, h1, h2, h3⟩ := trodAll_four hA
  obtain ⟨sp, hv⟩ := of_laid hL
  obtain ⟨rfl, rfl⟩ := hV.unique (vars_read1 enc gvar gvarType Tryd.underlying56 hv trivial _)
  have h0k := h0
  have h1k := h1
  clear hA0 hV0 hval0
  have hg := sent_of hv
  have hlt0 : ∀ x ∈ p0, x.block < W.heap.size := fun x hx => by simpa using hW'.lt x (by simp [hx])
  have hlt1 : ∀ x ∈ p1, x.block < W.heap.size := fun x hx => by simpa using hW'.lt x (by simp [hx])
  have hargs0 : ∀ (W' : World), Below W.heap.size W W' → DataW.Trod enc Tryd.prog W' 0 (fun b => decide (b < W.heap.size)) true 26 v0 d0 p0 :=
    fun W' hn => Below.trod laid_out (by kernel_rfl) (of_decide_eq_true (by kernel_rfl)) h0k hn hlt0
  have hargs1 : ∀ (W' : World), Below W.heap.size W W' → DataW.Trod enc Tryd.prog W' 0 (fun b => decide (b < W.heap.size)) true 26 v1 d1 p1 :=
    fun W' hn => Below.trod laid_out (by kernel_rfl) (of_decide_eq_true (by kernel_rfl)) h1k hn hlt1
  obtain ⟨q, s, fr, b, a, b0, o, cap, l, hv0, hl, hs⟩ := open_pathArg (hval 0 26 v0 rfl rfl) h0
  obtain ⟨q', s', fr', b', a', b0', o', cap', l', hv1, hl', hs'⟩ := open_pathArg (hval 1 26 v1 rfl rfl) h1
  obtain ⟨n2, rfl, rfl, rfl, hw2⟩ := open_int Tryd.underlying3 (hval 2 3 v2 rfl rfl) h2
  obtain ⟨n3, rfl, rfl, rfl, hw3⟩ := open_int Tryd.underlying3 (hval 3 3 v3 rfl rfl) h3
  subst hv0 hv1
  refine (mayLaw_all q s fr b a b0 o cap l q' s' fr' b' a' b0' o' cap' l' n2 n3 sp W hl hl' hs hs' hg).mono fun e W' ⟨he, hn⟩ => ?_
  subst he
  exact ⟨_, rfl, _, _, _, [], _, [.cell 0 0], hW', trodAll_mk1 (shut_bool Tryd.underlying4 _), trodAll_mk4 (hargs0 _ hn) (hargs1 _ hn) (shut_int Tryd.underlying3 hw2) (shut_int Tryd.underlying3 hw3), vars_read1 enc gvar gvarType Tryd.underlying56 (var?_below hn gvar hg.lt hv) trivial _, hn.frame _, fun h => by cases h⟩

theorem flyMayTurn_holds : Rows.FnExactFlyMayTurnSaid :=
  OpenClaim.holds_of_wide 5 Tryd.f5 rfl rfl rfl rfl rfl rfl rfl ⟨rfl, rfl, rfl, rfl, rfl⟩ rfl rfl rfl rfl rfl (by kernel_rfl) Tryd.func5 (by kernel_rfl)
    (of_decide_eq_true (by kernel_rfl)) (by unfold Func.isWrapper; rw [if_neg (of_decide_eq_false (by kernel_rfl))]; exact ⟨rfl, rfl⟩)
    (fun os started H enc _ => may_lifted os started H enc)

/-- The tied card. -/
theorem flyMayTurn_card : Rows.FnExactFlyMayTurnCardSaid :=
  Claim7.holds_tied_plain_at .later [] [.sentinel] true _ true
    flyMayTurn_holds (fun _ h => by cases h) (by kernel_rfl) (fun _ h => by cases h) fnExactFlyMayTurn_row_tie rfl ⟨rfl, rfl⟩ (by kernel_rfl) rfl
    (fun f fn hf hfn => by
      obtain rfl : f = 5 := Option.some.inj ((show Tryd.prog.funcNamed "loop.example/laplink/laws.FnExactFlyMayTurn" = some 5 by kernel_rfl).symm.trans hf) |>.symm
      obtain rfl : fn = Tryd.f5 := (Option.some.inj (Tryd.func5.symm.trans hfn)).symm
      exact ⟨by kernel_rfl, fun j t ht => by
        rw [Tryd.params5] at ht
        have hm : t ∈ [26, 26, 3, 3] := by simpa using Array.mem_of_getElem? ht
        have hall : ([26, 26, 3, 3].all fun u => !Tryd.prog.wantsStandIn u) = true := by kernel_rfl
        exact (show Tryd.prog.wantsStandIn t = false by simpa using List.all_eq_true.1 hall t hm)⟩)
    (by kernel_rfl)
#print axioms flyMayTurn_card
end Go.Proofs.YtlcblcoodabpeaaDoor
