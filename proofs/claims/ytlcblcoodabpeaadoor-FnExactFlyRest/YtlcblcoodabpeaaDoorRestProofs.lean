/- For every path, of however many steps and whatever numbers, every step, every entry and every tick, FlyRest of the program answers as its specification does, field by field; it writes into no argument, and its answer owns its memory. The sentinel errNothingLeft is as the program's text lays it (a tied card, over a copy of the project that is pruned of its tests); no other condition. -/
import Derived.SevenTiedAt
import Derived.Test.YtlcblcoodabpeaaDoorCards
import Derived.Test.YtlcblcoodabpeaaDoorTie
import Derived.Test.YtlcblcoodabpeaaDoorJ05
import Derived.Test.YtlcblcoodabpeaaDoorJ06
import Derived.Test.YtlcblcoodabpeaaDoorJ07
namespace Go.Proofs.YtlcblcoodabpeaaDoor
open Go.ChangeShapes Go.WideShapes Go.ChangeAt Go.RowKit

theorem restA_len (q s fr b st en nw : Int) (l : List Stp) (hl : l.length ≤ 1048576) : (restA q s fr b l st en nw).l.length ≤ 1048576 := by
  have hc : ∀ (F x y : Int), (canA q s F b (leftL l st.toNat x y nw)).l.length ≤ 1048576 := fun F x y => by
    unfold canA
    split
    · show (leftL l st.toNat x y nw).length ≤ 1048576
      rw [leftL_length]; omega
    · simp [Ans.no]
  unfold restA
  split
  · exact hc _ _ _
  · simp [Ans.no]

theorem restLaw_all (q s fr b st en nw : Int) (a : Option Addr) (b0 o cap : Nat) (l : List Stp) (p : Addr) (w : World) (hl : l.length ≤ maxLen) (hs : StepsAt w a b0 o l) (hg : Sent w p) :
    Calls Tryd.prog 3 #[.agg #[.int .i64 q, .int .i64 s, .slice a l.length cap, .int .i64 fr, .int .i64 b], .int .i64 st, .int .i64 en, .int .i64 nw] w fun e w' => e = .returned (.bool true) ∧ Below w.heap.size w w' := by
  by_cases h : l.length ≤ 1048576
  · exact restLaw_any (restA q s fr b l st en nw) q s fr b st en nw a b0 o cap l w h hs (restA_len q s fr b st en nw l h) (fun a b0 o cap W hc _ hW => flyRestS_any q s fr b st en nw a b0 o cap l W h hW hc) (fun a b0 o cap W hc hb hW => flyRestI_any spans_said q s fr b st en nw a b0 o cap l p W h hW hc (hg.below hb))
  · exact restLaw_big q s fr b st en nw a l.length cap w hl (by omega)

set_option maxRecDepth 100000 in
theorem rest_lifted (os : Os) (started : os.Started) (H : Type) (enc : TypeId × Value → H) :
    ReturnsInHanded {} Tryd.checked os 3 .any (fun w args => (Rows.fnExactFlyRestSpec.pre enc Tryd.prog Tryd.f3 [] false w args ∧ laidMetH Tryd.prog laidL w) ∧ sizedMet enc Tryd.prog Tryd.f3 (OpenSpec.ofChange Rows.fnExactFlyRestSpec) false w args)
      (Rows.fnExactFlyRestSpec.post enc Tryd.prog Tryd.f3 false true false false) := by
  refine returnsInHanded_of_change_and (C := Tryd.checked) (X := fun w _ => laidMetH Tryd.prog laidL w) (fun _ _ _ hh h => h.of_heap hh) own_none started (by kernel_rfl) Tryd.func3
    (ChangeSpec.witness_shaped (enc := enc) (C := Tryd.checked) (os := os) (X := fun w _ => laidMetH Tryd.prog laidL w) false (World.doorLaid Tryd.prog 400 os) #[.agg #[.int .i64 0, .int .i64 0, .slice none 0 0, .int .i64 0, .int .i64 0], .int .i64 0, .int .i64 0, .int .i64 0] 8 rfl (World.shaped_of_RefB (by kernel_rfl) (by kernel_rfl)) (by kernel_rfl) (by kernel_rfl) (by kernel_rfl) (door_met os _)) ?_
  intro W base args ds gs before hval0 hW _ _ hL _
  have hval : ∀ (j : Nat) t v, Tryd.f3.params[j]? = some t → args[j]? = some v → Value.okWide Tryd.prog W .any base t v := hval0
  have hW' := hW
  obtain ⟨p, q, hA0, hV0, rfl, hfz, hnd⟩ := hW
  have hA : DataW.TrodAll enc Tryd.prog W 0 (fun _ => true) true Tryd.f3.params.toList args.toList ds p := hA0
  have hV : DataW.TrodVars enc Tryd.prog W (fun _ => true) [varName] gs q := hV0
  rw [Tryd.params3] at hA hval
  obtain ⟨v0, v1, v2, v3, d0, d1, d2, d3, p0, p1, p2, p3, rfl, rfl, rfl, h0, h1, h2, h3⟩ := trodAll_four hA
  obtain ⟨sp, hv⟩ := of_laid hL
  obtain ⟨rfl, rfl⟩ := hV.unique (vars_read1 enc gvar gvarType Tryd.underlying56 hv trivial _)
  have h0k := h0
  clear hA0 hV0 hval0
  have hg := sent_of hv
  have hlt0 : ∀ x ∈ p0, x.block < W.heap.size := fun x hx => by simpa using hW'.lt x (by simp [hx])
  have hargs0 : ∀ (W' : World), Below W.heap.size W W' → DataW.Trod enc Tryd.prog W' 0 (fun b => decide (b < W.heap.size)) true 26 v0 d0 p0 :=
    fun W' hn => Below.trod laid_out (by kernel_rfl) (of_decide_eq_true (by kernel_rfl)) h0k hn hlt0
  obtain ⟨q, s, fr, b, a, b0, o, cap, l, hv0, hl, hs⟩ := open_pathArg (hval 0 26 v0 rfl rfl) h0
  obtain ⟨n1, rfl, rfl, rfl, hw1⟩ := open_int Tryd.underlying3 (hval 1 3 v1 rfl rfl) h1
  obtain ⟨n2, rfl, rfl, rfl, hw2⟩ := open_int Tryd.underlying3 (hval 2 3 v2 rfl rfl) h2
  obtain ⟨n3, rfl, rfl, rfl, hw3⟩ := open_int Tryd.underlying3 (hval 3 3 v3 rfl rfl) h3
  subst hv0
  refine (restLaw_all q s fr b n1 n2 n3 a b0 o cap l sp W hl hs hg).mono fun e W' ⟨he, hn⟩ => ?_
  subst he
  exact ⟨_, rfl, _, _, _, [], _, [.cell 0 0], hW', trodAll_mk1 (shut_bool Tryd.underlying4 _), trodAll_mk4 (hargs0 _ hn) (shut_int Tryd.underlying3 hw1) (shut_int Tryd.underlying3 hw2) (shut_int Tryd.underlying3 hw3), vars_read1 enc gvar gvarType Tryd.underlying56 (var?_below hn gvar hg.lt hv) trivial _, hn.frame _, fun h => by cases h⟩

theorem flyRest_holds : Rows.FnExactFlyRestSaid :=
  OpenClaim.holds_of_wide 3 Tryd.f3 rfl rfl rfl rfl rfl rfl rfl ⟨rfl, rfl, rfl, rfl, rfl⟩ rfl rfl rfl rfl rfl (by kernel_rfl) Tryd.func3 (by kernel_rfl)
    (of_decide_eq_true (by kernel_rfl)) (by unfold Func.isWrapper; rw [if_neg (of_decide_eq_false (by kernel_rfl))]; exact ⟨rfl, rfl⟩)
    (fun os started H enc _ => rest_lifted os started H enc)

/-- The tied card. -/
theorem flyRest_card : Rows.FnExactFlyRestCardSaid :=
  Claim7.holds_tied_plain_at .later [] [.sentinel] true _ true
    flyRest_holds (fun _ h => by cases h) (by kernel_rfl) (fun _ h => by cases h) fnExactFlyRest_row_tie rfl ⟨rfl, rfl⟩ (by kernel_rfl) rfl
    (fun f fn hf hfn => by
      obtain rfl : f = 3 := Option.some.inj ((show Tryd.prog.funcNamed "loop.example/laplink/laws.FnExactFlyRest" = some 3 by kernel_rfl).symm.trans hf) |>.symm
      obtain rfl : fn = Tryd.f3 := (Option.some.inj (Tryd.func3.symm.trans hfn)).symm
      exact ⟨by kernel_rfl, fun j t ht => by
        rw [Tryd.params3] at ht
        have hm : t ∈ [26, 3, 3, 3] := by simpa using Array.mem_of_getElem? ht
        have hall : ([26, 3, 3, 3].all fun u => !Tryd.prog.wantsStandIn u) = true := by kernel_rfl
        exact (show Tryd.prog.wantsStandIn t = false by simpa using List.all_eq_true.1 hall t hm)⟩)
    (by kernel_rfl)
#print axioms flyRest_card
end Go.Proofs.YtlcblcoodabpeaaDoor
