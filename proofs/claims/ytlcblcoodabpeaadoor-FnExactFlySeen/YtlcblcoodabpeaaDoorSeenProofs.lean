/- For every path, of however many steps and whatever numbers, every step and every tick, FlySeen of the program answers as its specification does, field by field; it writes into no argument, and its answer owns its memory. The sentinel errNothingLeft is as the program's text lays it (a tied card, over a copy of the project that is pruned of its tests); no other condition. -/
import Derived.Test.YtlcblcoodabpeaaDoorCards
import Derived.Test.YtlcblcoodabpeaaDoorTie
import Derived.Test.YtlcblcoodabpeaaDoorJ05
import Derived.Test.YtlcblcoodabpeaaDoorSeenLaw
import Derived.Test.YtlcblcoodabpeaaDoorSeenSpec
import Derived.Test.YtlcblcoodabpeaaDoorFlySeenI
import Derived.Test.YtlcblcoodabpeaaDoorJ07
import Derived.SevenTiedAt
namespace Go.Proofs.YtlcblcoodabpeaaDoor
open Go.ChangeShapes Go.WideShapes Go.ChangeAt Go.RowKit

theorem seenA_len (q s fr b st nw : Int) (l : List Stp) (hl : l.length ≤ 1048576) : (seenA q s fr b l st nw).l.length ≤ 1048576 := by
  have hc : ∀ (F x y : Int), (canA q s F b (leftL l st.toNat x y nw)).l.length ≤ 1048576 := fun F x y => by
    unfold canA
    split
    · show (leftL l st.toNat x y nw).length ≤ 1048576
      rw [leftL_length]; omega
    · simp [Ans.no]
  unfold seenA
  split
  · exact hc _ _ _
  · simp [Ans.no]

theorem seenLaw_all (q s fr b st nw : Int) (a : Option Addr) (b0 o cap : Nat) (l : List Stp) (p : Addr) (w : World) (hl : l.length ≤ maxLen) (hs : StepsAt w a b0 o l) (hg : Sent w p) :
    Calls Tryd.prog 4 #[.agg #[.int .i64 q, .int .i64 s, .slice a l.length cap, .int .i64 fr, .int .i64 b], .int .i64 st, .int .i64 nw] w fun e w' => e = .returned (.bool true) ∧ Below w.heap.size w w' := by
  by_cases h : l.length ≤ 1048576
  · exact seenLaw_any (seenA q s fr b l st nw) q s fr b st nw a b0 o cap l w h hs (seenA_len q s fr b st nw l h) (fun a b0 o cap W hc _ hW => flySeenS_any q s fr b st nw a b0 o cap l W h hW hc) (fun a b0 o cap W hc hb hW => flySeenI_any spans_said q s fr b st nw a b0 o cap l p W h hW hc (hg.below hb))
  · exact seenLaw_big q s fr b st nw a l.length cap w hl (by omega)

set_option maxRecDepth 100000 in
theorem seen_lifted (os : Os) (started : os.Started) (H : Type) (enc : TypeId × Value → H) :
    ReturnsInHanded {} Tryd.checked os 4 .any (fun w args => (Rows.fnExactFlySeenSpec.pre enc Tryd.prog Tryd.f4 [] false w args ∧ laidMetH Tryd.prog laidL w) ∧ sizedMet enc Tryd.prog Tryd.f4 (OpenSpec.ofChange Rows.fnExactFlySeenSpec) false w args)
      (Rows.fnExactFlySeenSpec.post enc Tryd.prog Tryd.f4 false true false false) := by
  refine returnsInHanded_of_change_and (C := Tryd.checked) (X := fun w _ => laidMetH Tryd.prog laidL w) (fun _ _ _ hh h => h.of_heap hh) own_none started (by kernel_rfl) Tryd.func4
    (ChangeSpec.witness_shaped (enc := enc) (C := Tryd.checked) (os := os) (X := fun w _ => laidMetH Tryd.prog laidL w) false (World.doorLaid Tryd.prog 400 os) #[.agg #[.int .i64 0, .int .i64 0, .slice none 0 0, .int .i64 0, .int .i64 0], .int .i64 0, .int .i64 0] 8 rfl (World.shaped_of_RefB (by kernel_rfl) (by kernel_rfl)) (by kernel_rfl) (by kernel_rfl) (by kernel_rfl) (door_met os _)) ?_
  intro W base args ds gs before hval0 hW _ _ hL _
  have hval : ∀ (j : Nat) t v, Tryd.f4.params[j]? = some t → args[j]? = some v → Value.okWide Tryd.prog W .any base t v := hval0
  have hW' := hW
  obtain ⟨p, q, hA0, hV0, rfl, hfz, hnd⟩ := hW
  have hA : DataW.TrodAll enc Tryd.prog W 0 (fun _ => true) true Tryd.f4.params.toList args.toList ds p := hA0
  have hV : DataW.TrodVars enc Tryd.prog W (fun _ => true) [varName] gs q := hV0
  rw [Tryd.params4] at hA hval
  obtain ⟨v0, v1, v2, d0, d1, d2, p0, p1, p2, rfl, rfl, rfl, h0, h1, h2⟩ := trodAll_three hA
  obtain ⟨sp, hv⟩ := of_laid hL
  obtain ⟨rfl, rfl⟩ := hV.unique (vars_read1 enc gvar gvarType Tryd.underlying56 hv trivial _)
  have h0k := h0
  clear hA0 hV0 hval0
  have hg := sent_of hv
  have hlt0 : ∀ x ∈ p0, x.block < W.heap.size := fun x hx => by simpa using hW'.lt x (by simp [hx])
  have hargs0 : ∀ (W' : World), Below W.heap.size W W' → DataW.Trod enc Tryd.prog W' 0 (fun b => decide (b < W.heap.size)) true 26 v0 d0 p0 :=
    fun W' hn => Below.trod laid_out (by kernel_rfl) (of_decide_eq_true (by kernel_rfl)) h0k hn hlt0
  obtain ⟨q, s, fr, b, a, b0, o, cap, l, hv0, hl, hs⟩ := open_pathArg (hval 0 26 v0 rfl rfl) h0
  obtain ⟨n1, rfl, rfl, rfl, hw1⟩ := open_int Tryd.underlying3 (hval 1 3 v1 rfl rfl) h1
  obtain ⟨n2, rfl, rfl, rfl, hw2⟩ := open_int Tryd.underlying3 (hval 2 3 v2 rfl rfl) h2
  subst hv0
  refine (seenLaw_all q s fr b n1 n2 a b0 o cap l sp W hl hs hg).mono fun e W' ⟨he, hn⟩ => ?_
  subst he
  exact ⟨_, rfl, _, _, _, [], _, [.cell 0 0], hW', trodAll_mk1 (shut_bool Tryd.underlying4 _), trodAll_mk3 (hargs0 _ hn) (shut_int Tryd.underlying3 hw1) (shut_int Tryd.underlying3 hw2), vars_read1 enc gvar gvarType Tryd.underlying56 (var?_below hn gvar hg.lt hv) trivial _, hn.frame _, fun h => by cases h⟩

theorem flySeen_holds : Rows.FnExactFlySeenSaid :=
  OpenClaim.holds_of_wide 4 Tryd.f4 rfl rfl rfl rfl rfl rfl rfl ⟨rfl, rfl, rfl, rfl, rfl⟩ rfl rfl rfl rfl rfl (by kernel_rfl) Tryd.func4 (by kernel_rfl)
    (of_decide_eq_true (by kernel_rfl)) (by unfold Func.isWrapper; rw [if_neg (of_decide_eq_false (by kernel_rfl))]; exact ⟨rfl, rfl⟩)
    (fun os started H enc _ => seen_lifted os started H enc)

/-- The tied card. -/
theorem flySeen_card : Rows.FnExactFlySeenCardSaid :=
  Claim7.holds_tied_plain_at .later [] [.sentinel] true _ true
    flySeen_holds (fun _ h => by cases h) (by kernel_rfl) (fun _ h => by cases h) fnExactFlySeen_row_tie rfl ⟨rfl, rfl⟩ (by kernel_rfl) rfl
    (fun f fn hf hfn => by
      obtain rfl : f = 4 := Option.some.inj ((show Tryd.prog.funcNamed "loop.example/laplink/laws.FnExactFlySeen" = some 4 by kernel_rfl).symm.trans hf) |>.symm
      obtain rfl : fn = Tryd.f4 := (Option.some.inj (Tryd.func4.symm.trans hfn)).symm
      exact ⟨by kernel_rfl, fun j t ht => by
        rw [Tryd.params4] at ht
        have hm : t ∈ [26, 3, 3] := by simpa using Array.mem_of_getElem? ht
        have hall : ([26, 3, 3].all fun u => !Tryd.prog.wantsStandIn u) = true := by kernel_rfl
        exact (show Tryd.prog.wantsStandIn t = false by simpa using List.all_eq_true.1 hall t hm)⟩)
    (by kernel_rfl)
#print axioms flySeen_card
end Go.Proofs.YtlcblcoodabpeaaDoor
