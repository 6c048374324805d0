/- The program's windows of a path, by their contract. -/
import Derived.Test.YtijcdikekgmfoaaGreatDoorLawImpl
import Derived.Test.YtijcdikekgmfoaaGreatDoorMeth
import Derived.Test.YtijcdikekgmfoaaGreatDoorSpanBack
namespace Go.Proofs.YtijcdikekgmfoaaGreatDoor
open Go.RowKit

/-- The windows of the first k places. -/
def winL (fr b : Int) (l : List Stp) (k : Nat) : List (Int × Int) := (List.range k).map fun i => (lowB fr l i, highB b l i)
theorem winL_succ (fr b : Int) (l : List Stp) (k : Nat) : winL fr b l (k + 1) = winL fr b l k ++ [(lowB fr l k, highB b l k)] := by simp [winL, List.range_succ]

theorem span_info2 : (Tryz.prog.info? 56).map (fun i => (i.zero, i.size, i.bytes)) = some (some (.agg #[.int .i64 0, .int .i64 0]), 2, 16) := by kernel_rfl

set_option maxRecDepth 20000 in
set_option maxHeartbeats 2000000 in
theorem winds_any (q s fr b : Int) (a : Option Addr) (b0 o cap : Nat) (l : List Stp) (w : World) (hl : l.length ≤ 1048576) (hs : StepsAt w a b0 o l) :
    Calls Tryz.prog 43 #[.agg #[.int .i64 q, .int .i64 s, .slice a l.length cap, .int .i64 fr, .int .i64 b]] w
      fun e w' => ∃ v, e = .returned v ∧ w'.ownsRow w.heap.size 56 2 v (l.length + 1) (spanCells (winL fr b l (l.length + 1))) ∧ Below w.heap.size w w' := by
  obtain ⟨i0, hi, hz0, hz1, hz2⟩ := info_parts span_info2
  go_enter Tryz.func43, Tryz.ntmps43
  go_wp2_with fail
  refine (bounds_any _ _ _ _ _ b0 o _ _ _ hl (hs.alloc _)).mono ?_
  rintro e w1 ⟨v, rfl, hown, hb1⟩
  have hB1 := (BoxP.new w q s fr b (.slice a l.length cap) 27).below hb1
  obtain ⟨g, vcap, rfl, _, hg⟩ := owns_some hown (by omega)
  have HX : Hid (∀ j, j < l.length + 1 → w1.cell? ⟨g, j, none⟩ = (bndTo l l.length ++ [Value.iface 163 (.agg #[.int .i64 fr, .int .i64 b])])[j]?) := fun j hj => hown.cellAt j (by omega)
  clear hown hb1
  go_wp2
  go_loopw [3, 11] (fun v u wr => ∃ k : Nat, k ≤ l.length + 1 ∧ u = .int .i64 k ∧ Below w1.heap.size w1 wr ∧ wr.ownsRow w1.heap.size 56 2 v k (spanCells (winL fr b l k))) (fun _ u _ => l.length + 1 - (intOf u).toNat)
  case atStart => exact ⟨0, Nat.zero_le _, rfl, Below.refl _ _, World.ownsRow_nil _ _ _ _⟩
  case round =>
    obtain ⟨k, hk, rfl, hb, hown⟩ := hrel
    by_cases hlt : k < l.length + 1
    · have hcell : wr.cell? ⟨g, k, none⟩ = _ := (hb.cell (p := ⟨g, k, none⟩) hg).trans (HX.out k hlt)
      have hz := hb.size
      by_cases hkl : k < l.length
      · have e1 : (bndTo l l.length ++ [Value.iface 163 (.agg #[.int .i64 fr, .int .i64 b])])[k]? = some (stepV (l.getD k .zero)) := by
          rw [List.getElem?_append_left (by rw [bndTo_length]; exact hkl)]
          simp [bndTo, hkl]
        rw [e1] at hcell
        obtain ⟨t, ht⟩ : ∃ t, l.getD k .zero = t := ⟨_, rfl⟩
        rw [ht] at hcell
        clear e1
        have hm := method_step _ Tryz.underlying136 t
        have HE : Hid (winL fr b l (k + 1) = winL fr b l k ++ [(t.fr, t.by_)]) := by show _ = _; rw [winL_succ]; unfold lowB highB; rw [if_pos hkl, if_pos hkl, ht]
        clear ht
        go_wp2_with (first
          | (go_at_call 169; refine (windowS_any _ _ _ _ _ _ _ _).mono ?_; rintro e w2 ⟨rfl, hb2⟩)
          | (at_builtin; (refine wpList_append_own _ rfl _ _ 34 rfl w1.heap.size 56 i0 (.agg #[.int .i64 0, .int .i64 0]) 2 16 Tryz.underlying34 hi hz0 hz1 hz2 rfl (by decide) _ _ _ rfl ((owns_below hown hb2).alloc _) ⟨w2.heap.size, 0, none⟩ 1 1 [.int .i64 t.fr, .int .i64 t.by_] rfl rfl (two_new _ _ _ _) (by simp [Value.oneCell']) (by unfold maxLen; omega) (by omega) (by have := hb2.size; simp; omega) ?_); intro v' w3 hown' hgrow _))
        have hbel : Below w1.heap.size wr w3 := ((hb2.mono hz).alloc (by have := hb2.size; omega) _).grown hgrow (by have := hb2.size; simp; omega) (owns_base hown)
        go_roundw
        case rel =>
          refine ⟨k + 1, by omega, by go_num, hb.trans hbel, ?_⟩
          rw [HE.out, spanCells_snoc]
          exact hown'
        case measure => simp [intOf]; omega
      · have e1 : (bndTo l l.length ++ [Value.iface 163 (.agg #[.int .i64 fr, .int .i64 b])])[k]? = some (Value.iface 163 (.agg #[.int .i64 fr, .int .i64 b])) := by
          rw [List.getElem?_append_right (by rw [bndTo_length]; omega), bndTo_length, show k - l.length = 0 by omega]
          rfl
        rw [e1] at hcell
        clear e1
        have hm := method_end _ Tryz.underlying136 fr b
        have HE : Hid (winL fr b l (k + 1) = winL fr b l k ++ [(fr, b)]) := by show _ = _; rw [winL_succ]; unfold lowB highB; rw [if_neg hkl, if_neg hkl]
        go_wp2_with (first
          | (go_at_call 172; refine (windowE_any _ _ _).mono ?_; rintro e w2 ⟨rfl, hb2⟩)
          | (at_builtin; (refine wpList_append_own _ rfl _ _ 34 rfl w1.heap.size 56 i0 (.agg #[.int .i64 0, .int .i64 0]) 2 16 Tryz.underlying34 hi hz0 hz1 hz2 rfl (by decide) _ _ _ rfl ((owns_below hown hb2).alloc _) ⟨w2.heap.size, 0, none⟩ 1 1 [.int .i64 fr, .int .i64 b] rfl rfl (two_new _ _ _ _) (by simp [Value.oneCell']) (by unfold maxLen; omega) (by omega) (by have := hb2.size; simp; omega) ?_); intro v' w3 hown' hgrow _))
        have hbel : Below w1.heap.size wr w3 := ((hb2.mono hz).alloc (by have := hb2.size; omega) _).grown hgrow (by have := hb2.size; simp; omega) (owns_base hown)
        go_roundw
        case rel =>
          refine ⟨k + 1, by omega, by go_num, hb.trans hbel, ?_⟩
          rw [HE.out, spanCells_snoc]
          exact hown'
        case measure => simp [intOf]; omega
    · obtain rfl : k = l.length + 1 := by omega
      have hz := hB1.old.size
      go_wp2
      go_ret
      exact ⟨_, rfl, ⟨hown.1, hown.2.imp id fun ⟨g, cap, cur, h1, h2, h3⟩ => ⟨g, cap, cur, h1, by omega, h3⟩⟩, hB1.old.trans (hb.mono hB1.old.size)⟩
end Go.Proofs.YtijcdikekgmfoaaGreatDoor
