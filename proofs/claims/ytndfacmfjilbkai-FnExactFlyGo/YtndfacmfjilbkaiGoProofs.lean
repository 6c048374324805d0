/- For every path, every list of ticks that have begun and every list of ticks that are asked, of whatever length and numbers, FlyGo of the program answers as its specification does, tick by tick; it writes into no argument, and its answer owns its memory. No condition. -/
import Derived.Test.YtndfacmfjilbkaiGoLaw
import Derived.Test.YtndfacmfjilbkaiSpanImpl
import Derived.Test.YtndfacmfjilbkaiWalk
import Derived.Test.YtndfacmfjilbkaiOpen
import Derived.ProofKit
namespace Go.Proofs.Ytndfacmfjilbkai
open Go.ChangeShapes Go.WideShapes Go.ChangeAt Go.RowKit

theorem own_none2 : ownKnob Try.prog.godebug = none := by kernel_rfl
theorem laid_out2 : laidOutB Try.prog = true := by kernel_rfl

set_option maxRecDepth 20000 in
/-- A list of numbers that came in. -/
theorem open_intsArg {H : Type} {enc : TypeId × Value → H} {w : World} {base : Nat} {spare : Nat → Bool} {held : Bool} {r : Reach} {b : Nat} {v : Value} {d : DataW H} {p : List MemPlace}
    (hv : Value.okWide Try.prog w r b 27 v) (h : DataW.Trod enc Try.prog w base spare held 27 v d p) :
    ∃ (a : Option Addr) (b0 o cap : Nat) (zs : List Int), v = .slice a zs.length cap ∧ zs.length ≤ maxLen ∧ IntsAt w a b0 o zs := by
  obtain ⟨a0, len, cap, rfl⟩ := okWide_slice Try.underlying27 hv
  obtain ⟨fuel, hf⟩ := h
  rcases open_ints Try.underlying27 Try.underlying3 cells_int hf with ⟨hcs, _⟩ | ⟨a, len', cap', zs, hcs, _, hl, hm, hzl, _, hcell, _⟩
  · simp [Value.cells] at hcs
    obtain ⟨rfl, rfl, rfl⟩ := hcs
    exact ⟨none, 0, 0, 0, [], rfl, by simp, ⟨fun h => absurd rfl h, fun h => absurd rfl h, fun i z hi => by simp at hi⟩⟩
  · simp [Value.cells] at hcs
    obtain ⟨rfl, rfl, rfl⟩ := hcs
    have hlz : len ≤ zs.length := by rw [hzl]; split <;> omega
    have htl : (zs.take len).length = len := by simp; omega
    rcases Nat.eq_zero_or_pos len with e | h0
    · subst e
      exact ⟨some a, 0, 0, cap, [], rfl, by simp, ⟨fun h => absurd rfl h, fun h => absurd rfl h, fun i z hi => by simp at hi⟩⟩
    obtain ⟨b1, o, sp⟩ := a
    have hsp : sp = none := by simpa [Addr.add] using World.cell?_spot (hcell 0 (by omega))
    subst hsp
    have hc : ∀ i, i < len → w.cell? ⟨b1, o + i, none⟩ = some (.int .i64 (zs.getD i 0)) := fun i hi => by rw [← add_plain]; exact hcell i (by omega)
    refine ⟨some ⟨b1, o, none⟩, b1, o, cap, zs.take len, by rw [htl], by rw [htl]; omega, ⟨fun _ => rfl, fun _ => World.block_lt_of_cell? w _ (hc 0 h0), fun i z hi => ?_⟩⟩
    have hil : i < len := by rw [← htl]; exact (List.getElem?_eq_some_iff.1 hi).1
    rw [hc i hil]
    rw [List.getElem?_take_of_lt hil] at hi
    simp [List.getD, hi]

theorem goLaw_all (q s fr b : Int) (a : Option Addr) (b0 o cap : Nat) (l : List Stp) (c : Option Addr) (cb co ccap : Nat) (zs : List Int) (d : Option Addr) (db do_ dcap : Nat) (asks : List Int) (w : World) (hl : l.length ≤ maxLen) (hm : zs.length ≤ maxLen) (hk : asks.length ≤ maxLen) (hs : StepsAt w a b0 o l) (hz : IntsAt w c cb co zs) (ha : IntsAt w d db do_ asks) :
    Calls Try.prog 4 #[.agg #[.int .i64 q, .int .i64 s, .slice a l.length cap, .int .i64 fr, .int .i64 b], .slice c zs.length ccap, .slice d asks.length dcap] w fun e w' => e = .returned (.bool true) ∧ Below w.heap.size w w' := by
  by_cases h1 : zs.length ≤ 1048576
  · by_cases h3 : asks.length ≤ 1048576
    · by_cases h2 : l.length ≤ 1048576
      · exact goLaw_any (spans_any walk_any follow_any) follow_any q s fr b a b0 o cap l c cb co ccap zs d db do_ dcap asks w h2 h1 h3 hs hz ha
      · exact goLaw_big3 q s fr b a l.length cap c zs.length ccap d asks.length dcap w h1 h3 hl (by omega)
    · exact goLaw_big2 q s fr b a l.length cap c zs.length ccap d asks.length dcap w h1 hk (by omega)
  · exact goLaw_big1 q s fr b a l.length cap c zs.length ccap d asks.length dcap w hm (by omega)

set_option maxRecDepth 100000 in
theorem go_lifted (os : Os) (started : os.Started) (H : Type) (enc : TypeId × Value → H) :
    ReturnsInHanded {} Try.checked os 4 .any (Rows.fnExactFlyGoSpec.pre6 enc Try.prog Try.f4 Rows.fnExactFlyGoRow.domain false) (Rows.fnExactFlyGoSpec.post enc Try.prog Try.f4 false true false false) := by
  refine returnsInHanded_of_change (C := Try.checked) own_none2 started (by kernel_rfl) Try.func4
    (ChangeSpec.witness6 (enc := enc) (C := Try.checked) false ⟨#[], #[.agg #[.int .i64 0, .int .i64 0, .slice none 0 0, .int .i64 0, .int .i64 0], .slice none 0 0, .slice none 0 0], []⟩ 8 (by kernel_rfl) (by kernel_rfl) (by kernel_rfl) (by kernel_rfl)) ?_
  intro W base args ds gs before hval0 hW hcnd _
  have hval : ∀ (j : Nat) t v, Try.f4.params[j]? = some t → args[j]? = some v → Value.okWide Try.prog W .any base t v := hval0
  have hW' := hW
  obtain ⟨p, q, hA0, hV, rfl, hfz, hnd⟩ := hW
  have hA : DataW.TrodAll enc Try.prog W 0 (fun _ => true) true Try.f4.params.toList args.toList ds p := hA0
  rw [Try.params4] at hA hval
  obtain ⟨v0, v1, v2, d0, d1, d2, p0, p1, p2, rfl, rfl, rfl, h0, h1, h2⟩ := trodAll_three hA
  obtain ⟨rfl, rfl⟩ := trodVars_none hV
  have h0k := h0
  have h1k := h1
  have h2k := h2
  clear hA0 hval0
  simp only [List.append_nil] at hW'
  have hlt0 : ∀ x ∈ p0, x.block < W.heap.size := fun x hx => by simpa using hW'.lt x (by simp [hx])
  have hlt1 : ∀ x ∈ p1, x.block < W.heap.size := fun x hx => by simpa using hW'.lt x (by simp [hx])
  have hlt2 : ∀ x ∈ p2, x.block < W.heap.size := fun x hx => by simpa using hW'.lt x (by simp [hx])
  have hargs0 : ∀ (W' : World), Below W.heap.size W W' → DataW.Trod enc Try.prog W' 0 (fun b => decide (b < W.heap.size)) true 26 v0 d0 p0 :=
    fun W' hn => Below.trod laid_out2 (by kernel_rfl) (of_decide_eq_true (by kernel_rfl)) h0k hn hlt0
  have hargs1 : ∀ (W' : World), Below W.heap.size W W' → DataW.Trod enc Try.prog W' 0 (fun b => decide (b < W.heap.size)) true 27 v1 d1 p1 :=
    fun W' hn => Below.trod laid_out2 (by kernel_rfl) (of_decide_eq_true (by kernel_rfl)) h1k hn hlt1
  have hargs2 : ∀ (W' : World), Below W.heap.size W W' → DataW.Trod enc Try.prog W' 0 (fun b => decide (b < W.heap.size)) true 27 v2 d2 p2 :=
    fun W' hn => Below.trod laid_out2 (by kernel_rfl) (of_decide_eq_true (by kernel_rfl)) h2k hn hlt2
  obtain ⟨q, s, fr, b, a, b0, o, cap, l, hv0, hl, hs⟩ := open_pathArg (hval 0 26 v0 rfl rfl) h0
  obtain ⟨c, cb, co, ccap, zs, hv1, hm, hz⟩ := open_intsArg (hval 1 27 v1 rfl rfl) h1
  obtain ⟨d, db, do_, dcap, asks, hv2, hk, ha⟩ := open_intsArg (hval 2 27 v2 rfl rfl) h2
  subst hv0 hv1 hv2
  refine (goLaw_all q s fr b a b0 o cap l c cb co ccap zs d db do_ dcap asks W hl hm hk hs hz ha).mono fun e W' ⟨he, hn⟩ => ?_
  subst he
  exact ⟨_, rfl, _, _, _, [], _, [], hW', trodAll_mk1 (shut_bool Try.underlying4 _), trodAll_mk3 (hargs0 _ hn) (hargs1 _ hn) (hargs2 _ hn), rfl, hn.frame _, fun h => by cases h⟩

theorem flyGo_holds : Rows.FnExactFlyGoSaid :=
  OpenClaim.holds_of_wide 4 Try.f4 rfl rfl rfl rfl rfl rfl rfl ⟨rfl, rfl, rfl, rfl, rfl⟩ rfl rfl rfl rfl rfl (by kernel_rfl) Try.func4 (by kernel_rfl)
    (of_decide_eq_true (by kernel_rfl)) (by unfold Func.isWrapper; rw [if_neg (of_decide_eq_false (by kernel_rfl))]; exact ⟨rfl, rfl⟩)
    (fun os started H enc _ => go_lifted os started H enc)
#print axioms flyGo_holds
end Go.Proofs.Ytndfacmfjilbkai
