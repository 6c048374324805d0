/- Joined texts: PbCutI, LkTubeI, LkPastD. -/
import Derived.Deep.RegionHeld3
import Derived.Test.YtgjleeamhkolhaaGreatDoorJ08
import Derived.Test.YtgjleeamhkolhaaGreatDoorPbField
import Derived.Test.YtgjleeamhkolhaaGreatDoorJ07
import Derived.Test.YtgjleeamhkolhaaGreatDoorJ04
namespace Go.Proofs.YtgjleeamhkolhaaGreatDoor
open Go.RowKit

set_option maxHeartbeats 4000000 in
set_option maxRecDepth 20000 in
theorem from_any (a : Option Addr) (b o cap : Nat) (l : List Bx) (n : Int) (w : World) (hl : l.length ≤ 1048576) (hs : BoxesAt w a b o l) :
    Calls Tryz.prog 155 #[.slice a l.length cap, .int .i64 n] w
      fun e w' => ∃ v, e = .returned v ∧ w'.ownsRow w.heap.size 195 6 v (cutL n l).length (rowC (cutL n l)) ∧ Below w.heap.size w w' := by
  obtain ⟨i0, hi, hz0, hz1, hz2⟩ := info_parts pbox_info
  go_enter Tryz.func155, Tryz.ntmps155
  go_wp2
  go_loopw [5, 10] (fun v x wr => ∃ k : Nat, k ≤ l.length ∧ x = .int .i64 k ∧ Below w.heap.size w wr ∧ wr.ownsRow w.heap.size 195 6 v (cutL n (l.take k)).length (rowC (cutL n (l.take k)))) (fun _ x _ => l.length - (intOf x).toNat)
  case atStart => exact ⟨0, Nat.zero_le _, rfl, Below.refl _ _, World.ownsRow_nil _ _ _ _⟩
  case round =>
    obtain ⟨k, hk, rfl, hb, ho⟩ := hrel
    by_cases hlt : k < l.length
    · obtain ⟨s, hsk⟩ : ∃ s, l[k]? = some s := ⟨l[k], List.getElem?_eq_getElem hlt⟩
      have hne : l ≠ [] := by intro e; subst e; simp at hlt
      obtain rfl := hs.here hne
      have hbw := hs.lt hne
      obtain ⟨c0, c1, c2, c3, c4, c5⟩ := (hs.below hb (fun _ => hbw)).six hsk
      have k0 : (0 : Int) ≤ (k : Int) := by omega
      have k1 : (k : Int) < (l.length : Int) := by omega
      have HS : Hid (l[k]? = some s) := hsk
      have hlen := cutL_len_take n l k
      clear hsk
      by_cases h2 : n ≤ s.out
      · by_cases h3 : s.in_ < n
        · have HT : Hid (cutL n (l.take (k + 1)) = cutL n (l.take k) ++ [{ s with in_ := n }]) := by show _ = _; rw [cutL_take HS.out, if_pos (by omega), show max s.in_ n = n by omega]
          have O1 := owns_below ho (bel2 (.cells #[.int .i64 s.x, .int .i64 s.y, .int .i64 s.lo, .int .i64 s.hi, .int .i64 n, .int .i64 s.out] 195) (.cells #[.int .i64 s.x, .int .i64 s.y, .int .i64 s.lo, .int .i64 s.hi, .int .i64 n, .int .i64 s.out] 195))
          have B1 := (hb.alloc hb.size (.cells #[.int .i64 s.x, .int .i64 s.y, .int .i64 s.lo, .int .i64 s.hi, .int .i64 n, .int .i64 s.out] 195)).alloc (by simp; have := hb.size; omega) (.cells #[.int .i64 s.x, .int .i64 s.y, .int .i64 s.lo, .int .i64 s.hi, .int .i64 n, .int .i64 s.out] 195)
          go_wp2_with (at_builtin; refine wpList_append_own _ rfl (.tmp 23) (.tmp 25) 130 rfl w.heap.size 195 i0 (.agg #[.int .i64 0, .int .i64 0, .int .i64 0, .int .i64 0, .int .i64 0, .int .i64 0]) 6 48 Tryz.underlying130 hi hz0 hz1 hz2 rfl (by decide) u5 _ _ rfl O1 ⟨wr.heap.size + 1, 0, none⟩ 1 1 (Bx.cells { s with in_ := n }) rfl rfl (six_new2P wr { s with in_ := n } _ _) (by simp [Value.oneCell']) (by unfold maxLen; omega) (by omega) (by simp; have := hb.size; omega) ?_; intro v7 w7 hown7 hgrow7 hnil7)
          go_roundw
          case rel => exact ⟨k + 1, by omega, by go_num, B1.grown hgrow7 (by simp; have := hb.size; omega) (owns_base O1), by rw [HT.out, rowC_snoc, List.length_append]; exact hown7⟩
          case measure => simp [intOf]; omega
        · have HT : Hid (cutL n (l.take (k + 1)) = cutL n (l.take k) ++ [s]) := by show _ = _; rw [cutL_take HS.out, if_pos (by omega), show max s.in_ n = s.in_ by omega]
          have O1 := owns_below ho (bel2 (.cells #[.int .i64 s.x, .int .i64 s.y, .int .i64 s.lo, .int .i64 s.hi, .int .i64 s.in_, .int .i64 s.out] 195) (.cells #[.int .i64 s.x, .int .i64 s.y, .int .i64 s.lo, .int .i64 s.hi, .int .i64 s.in_, .int .i64 s.out] 195))
          have B1 := (hb.alloc hb.size (.cells #[.int .i64 s.x, .int .i64 s.y, .int .i64 s.lo, .int .i64 s.hi, .int .i64 s.in_, .int .i64 s.out] 195)).alloc (by simp; have := hb.size; omega) (.cells #[.int .i64 s.x, .int .i64 s.y, .int .i64 s.lo, .int .i64 s.hi, .int .i64 s.in_, .int .i64 s.out] 195)
          go_wp2_with (at_builtin; refine wpList_append_own _ rfl (.tmp 23) (.tmp 25) 130 rfl w.heap.size 195 i0 (.agg #[.int .i64 0, .int .i64 0, .int .i64 0, .int .i64 0, .int .i64 0, .int .i64 0]) 6 48 Tryz.underlying130 hi hz0 hz1 hz2 rfl (by decide) u5 _ _ rfl O1 ⟨wr.heap.size + 1, 0, none⟩ 1 1 (Bx.cells s) rfl rfl (six_new2P wr s _ _) (by simp [Value.oneCell']) (by unfold maxLen; omega) (by omega) (by simp; have := hb.size; omega) ?_; intro v7 w7 hown7 hgrow7 hnil7)
          go_roundw
          case rel => exact ⟨k + 1, by omega, by go_num, B1.grown hgrow7 (by simp; have := hb.size; omega) (owns_base O1), by rw [HT.out, rowC_snoc, List.length_append]; exact hown7⟩
          case measure => simp [intOf]; omega
      · have HT : Hid (cutL n (l.take (k + 1)) = cutL n (l.take k)) := by show _ = _; rw [cutL_take HS.out, if_neg h2]
        go_wp2
        go_roundw
        case rel => exact ⟨k + 1, by omega, by go_num, hb.alloc hb.size _, by rw [HT.out]; exact owns_below ho (bel1 _)⟩
        case measure => simp [intOf]; omega
    · obtain rfl : k = l.length := by omega
      rw [List.take_length] at ho
      go_wp2
      go_ret
      exact ⟨_, rfl, ho, hb⟩

structure ResW (w wr : World) (t : Tb) : Prop where
  old : Below w.heap.size w wr
  tube : wr.heap[w.heap.size]? = some (.cells #[.string t.nm, .slice t.a t.l.length t.cap] 132 (0, 0))
  res : wr.heap[w.heap.size + 1]? = some (.cells #[.string ⟨#[]⟩, .slice none 0 0] 132 (0, 0))
theorem ResW.keep {w wr w2 : World} {t : Tb} (h : ResW w wr t) (hb : Below wr.heap.size wr w2) : ResW w w2 t :=
  ⟨h.old.trans (hb.mono h.old.size), (hb.block _ (lt_of_block h.tube)).trans h.tube, (hb.block _ (lt_of_block h.res)).trans h.res⟩
theorem ResW.new (w w1 : World) (t : Tb) (hb : Below ((w.alloc (.cells #[.string t.nm, .slice t.a t.l.length t.cap] 132)).alloc (.cells #[.string ⟨#[]⟩, .slice none 0 0] 132)).heap.size ((w.alloc (.cells #[.string t.nm, .slice t.a t.l.length t.cap] 132)).alloc (.cells #[.string ⟨#[]⟩, .slice none 0 0] 132)) w1) : ResW w w1 t where
  old := (bel2 _ _).trans (hb.mono (by simp; omega))
  tube := (hb.block _ (by simp; omega)).trans ((Below.heap_alloc _ _ _ (by simp)).trans (heap_alloc_new w _))
  res := (hb.block _ (by simp)).trans (by have := heap_alloc_new (w.alloc (.cells #[.string t.nm, .slice t.a t.l.length t.cap] 132)) (.cells #[.string ⟨#[]⟩, .slice none 0 0] 132); rwa [World.size_alloc] at this)

set_option maxHeartbeats 4000000 in
set_option maxRecDepth 20000 in
theorem cutI_any (nm : ByteArray) (a : Option Addr) (b o cap : Nat) (l : List Bx) (n : Int) (w : World) (hl : l.length ≤ 1048576) (hs : BoxesAt w a b o l) :
    Calls Tryz.prog 130 #[.agg #[.string nm, .slice a l.length cap], .int .i64 n] w
      fun e w' => ∃ v, e = .returned (.agg #[.string (cutNm ⟨nm, a, b, o, cap, l⟩), v]) ∧ w'.ownsRow w.heap.size 195 6 v (cutBx ⟨nm, a, b, o, cap, l⟩ n).length (rowC (cutBx ⟨nm, a, b, o, cap, l⟩ n)) ∧ Below w.heap.size w w' := by
  have A0 : TubeAt w ⟨nm, a, b, o, cap, l⟩ := ⟨hs⟩
  cases h1 : tubeB ⟨nm, a, b, o, cap, l⟩ with
  | false =>
    have G : Hid (cutNm ⟨nm, a, b, o, cap, l⟩ = ⟨#[]⟩ ∧ cutBx ⟨nm, a, b, o, cap, l⟩ n = []) := by show _ ∧ _; unfold cutNm cutBx; rw [h1]; simp
    have H1 : Hid (tubeB ⟨nm, a, b, o, cap, l⟩ = false) := h1
    clear h1
    go_enter Tryz.func130, Tryz.ntmps130
    go_wp2_with fail
    refine (tubeOk_val ⟨nm, a, b, o, cap, l⟩ false _ hl (A0.below (bel2 _ _)) H1.out).mono ?_
    rintro e w1 ⟨rfl, hb1⟩
    have C := ResW.new w w1 ⟨nm, a, b, o, cap, l⟩ hb1
    obtain ⟨r0, r1, rf⟩ := blk2 C.res
    clear hb1
    go_wp2
    refine bodyPost_ret (v := .agg #[.string ⟨#[]⟩, .slice none 0 0]) (by simp [results, Tryz.results130, go_sem, *]) rfl ⟨.slice none 0 0, by rw [G.out.1], by rw [G.out.2]; exact World.ownsRow_nil _ _ _ _, ?_⟩
    iterate 2 (refine Below.setCell ?_ (by simp) _)
    exact C.old
  | true =>
    have G : Hid (cutNm ⟨nm, a, b, o, cap, l⟩ = nm ∧ cutBx ⟨nm, a, b, o, cap, l⟩ n = cutL n l) := by show _ ∧ _; unfold cutNm cutBx; rw [h1]; simp
    have H1 : Hid (tubeB ⟨nm, a, b, o, cap, l⟩ = true) := h1
    clear h1
    go_enter Tryz.func130, Tryz.ntmps130
    go_wp2_with fail
    refine (tubeOk_val ⟨nm, a, b, o, cap, l⟩ true _ hl (A0.below (bel2 _ _)) H1.out).mono ?_
    rintro e w1 ⟨rfl, hb1⟩
    have C1 := ResW.new w w1 ⟨nm, a, b, o, cap, l⟩ hb1
    have C1d : ResW w w1.drew ⟨nm, a, b, o, cap, l⟩ := C1.keep ((Below.refl _ _).drew)
    obtain ⟨t0, t1, tf⟩ := blk2 C1.tube
    have hfd := fun wx => lane_field nm a l.length cap wx
    clear hb1 A0
    go_wp2
    go_region_held3 (fun w' => w'.cell? ⟨w.heap.size, 0, none⟩ = some (.string nm) ∧ w'.cell? ⟨w.heap.size, 1, none⟩ = some (.slice a l.length cap))
      (simp [go_sem, *])
      (first
        | (go_at_call 151; refine (lane_at nm a cap l _).mono ?_; rintro e w2 ⟨rfl, hb2⟩; have C2 := C1d.keep hb2; obtain ⟨s0, s1, sf⟩ := blk2 C2.tube)
        | (go_at_call 155; refine (from_any _ b o _ l _ _ hl (hs.below C2.old hs.lt)).mono ?_; rintro e w3 ⟨v3, rfl, ho3, hb3⟩; have C3 := C2.keep hb3; obtain ⟨q0, q1, qf⟩ := blk2 C3.tube; obtain ⟨r0, r1, rf⟩ := blk2 C3.res; obtain ⟨va, vc, rfl⟩ := owns_slice ho3; have D3 := C2.old.size))
    go_wp2
    refine bodyPost_ret (v := .agg #[.string nm, .slice va (cutL n l).length vc]) (by simp [results, Tryz.results130, go_sem, *]) rfl ⟨_, by rw [G.out.1], ?_, ?_⟩
    · rw [G.out.2]
      refine owns_lower (base := w2.heap.size) ?_ D3
      have z2 := lt_of_block C2.res
      iterate 2 (refine owns_set ?_ (fun k e => by have := owns_base ho3 k e; omega) _ _)
      exact ho3
    · iterate 2 (refine Below.setCell ?_ (by simp) _)
      exact C3.old
end Go.Proofs.YtgjleeamhkolhaaGreatDoor

namespace Go.Proofs.YtgjleeamhkolhaaGreatDoor
open Go.RowKit

abbrev pathTb (nm : ByteArray) (q s fr b : Int) (l : List Stp) : Tb := ⟨nm, none, 0, 0, 0, tubeL q s fr b l⟩
theorem tubeL_len (q s fr b : Int) (l : List Stp) : (tubeL q s fr b l).length ≤ 40 := by
  unfold tubeL
  split
  · rename_i h
    rw [tubeTo_length]
    exact fly_len h
  · simp

structure LtW (w wr : World) (N : Nat) (c : Option Addr) (cb : Nat) (T : List Bx) (v : Value) (m : List Bx) : Prop where
  old : Below w.heap.size w wr
  res : wr.heap[w.heap.size + 1]? = some (.cells #[.string ⟨#[]⟩, .slice none 0 0] 132 (0, 0))
  lt : N ≤ wr.heap.size
  tb : BoxesAt wr c cb 0 T
  tbN : T ≠ [] → cb < N
  own : wr.ownsRow N 195 6 v m.length (rowC m)
section
variable {w wr w' : World} {N cb : Nat} {c : Option Addr} {T m : List Bx} {v : Value}
theorem LtW.keep (h : LtW w wr N c cb T v m) (hb : Below wr.heap.size wr w') : LtW w w' N c cb T v m :=
  ⟨h.old.trans (hb.mono h.old.size), (hb.block _ (lt_of_block h.res)).trans h.res, Nat.le_trans h.lt hb.size, h.tb.below hb h.tb.lt, h.tbN, owns_below h.own hb⟩
theorem LtW.push {v7 : Value} {t : Bx} (h : LtW w wr N c cb T v m) (hN : w.heap.size + 1 < N) (hg : wr.grownBy w' v.ownBlock) (ho : w'.ownsRow N 195 6 v7 (m.length + 1) (rowC m ++ t.cells)) : LtW w w' N c cb T v7 (m ++ [t]) := by
  have hbase := owns_base h.own
  refine ⟨h.old.grown hg h.old.size (fun k e => by have := hbase k e; omega), (hg.block _ (lt_of_block h.res) (fun e => by have := hbase _ e.symm; omega)).trans h.res, Nat.le_trans h.lt hg.size,
    h.tb.grown hg (fun hne e => by have := hbase _ e.symm; have := h.tbN hne; omega), h.tbN, ?_⟩
  rw [rowC_snoc, List.length_append]
  exact ho
end

set_option maxRecDepth 20000 in
set_option maxHeartbeats 4000000 in
theorem linkTubeI_any (hI : SpansSaid) (nm : ByteArray) (q s fr b : Int) (a : Option Addr) (b0 o cap : Nat) (l : List Stp) (n : Int) (w : World) (hl : l.length ≤ 1048576) (hs : StepsAt w a b0 o l) :
    Calls Tryz.prog 100 #[.string nm, .agg #[.int .i64 q, .int .i64 s, .slice a l.length cap, .int .i64 fr, .int .i64 b], .int .i64 n] w
      fun e w' => ∃ v, e = .returned (.agg #[.string (cutNm (pathTb nm q s fr b l)), v]) ∧ w'.ownsRow w.heap.size 195 6 v (cutBx (pathTb nm q s fr b l) n).length (rowC (cutBx (pathTb nm q s fr b l) n)) ∧ Below w.heap.size w w' := by
  obtain ⟨i0, hi, hz0, hz1, hz2⟩ := info_parts pbox_info
  have B0 : Below w.heap.size w ((w.alloc (.cells #[.int .i64 q, .int .i64 s, .slice a l.length cap, .int .i64 fr, .int .i64 b] 38)).alloc (.cells #[.string ⟨#[]⟩, .slice none 0 0] 132)) := bel2 _ _
  have R0 : ((w.alloc (.cells #[.int .i64 q, .int .i64 s, .slice a l.length cap, .int .i64 fr, .int .i64 b] 38)).alloc (.cells #[.string ⟨#[]⟩, .slice none 0 0] 132)).heap[w.heap.size + 1]? = some (.cells #[.string ⟨#[]⟩, .slice none 0 0] 132 (0, 0)) := by
    have := heap_alloc_new (w.alloc (.cells #[.int .i64 q, .int .i64 s, .slice a l.length cap, .int .i64 fr, .int .i64 b] 38)) (.cells #[.string ⟨#[]⟩, .slice none 0 0] 132)
    rwa [World.size_alloc] at this
  have ht40 := tubeL_len q s fr b l
  go_enter Tryz.func100, Tryz.ntmps100
  go_wp2_with fail
  refine (flyTubeI_any hI q s fr b a b0 o cap l _ hl (hs.below B0 hs.lt)).mono ?_
  rintro e w1 ⟨v1, rfl, ho1, hb1⟩
  obtain ⟨c1, g1, k1, rfl, R1⟩ := owns_rowB ho1
  have L1 : LtW w w1 w1.heap.size c1 g1 (tubeL q s fr b l) (.slice none 0 0) ((tubeL q s fr b l).take 0) :=
    ⟨B0.trans (hb1.mono B0.size), (hb1.block _ (lt_of_block R0)).trans R0, Nat.le_refl _, R1.at_, R1.at_.lt, World.ownsRow_nil _ _ _ _⟩
  have hN : w.heap.size + 1 < w1.heap.size := lt_of_block L1.res
  clear B0 R0 ho1 hb1 R1
  have HT : Hid (∀ a b0 o cap, cutNm ⟨nm, a, b0, o, cap, tubeL q s fr b l⟩ = cutNm (pathTb nm q s fr b l) ∧ cutBx ⟨nm, a, b0, o, cap, tubeL q s fr b l⟩ n = cutBx (pathTb nm q s fr b l) n) := fun _ _ _ _ => ⟨rfl, rfl⟩
  generalize tubeL q s fr b l = T at *
  go_wp2
  generalize w1.heap.size = N at *
  go_loopw [7, 13] (fun v x wr => ∃ k : Nat, k ≤ T.length ∧ x = .int .i64 k ∧ LtW w wr N c1 g1 T v (T.take k)) (fun _ x _ => T.length - (intOf x).toNat)
  case atStart => exact ⟨0, Nat.zero_le _, rfl, L1⟩
  case round =>
    clear L1
    obtain ⟨k, hk, rfl, hT⟩ := hrel
    by_cases hlt : k < T.length
    · obtain ⟨t, ht⟩ : ∃ t, T[k]? = some t := ⟨T[k], List.getElem?_eq_getElem hlt⟩
      have hne : T ≠ [] := by intro e; subst e; simp at hlt
      obtain rfl := hT.tb.here hne
      obtain ⟨c0, c1, c2, c3, c4, c5⟩ := hT.tb.six ht
      simp only [Nat.zero_add] at c0 c1 c2 c3 c4 c5
      have k0 : (0 : Int) ≤ (k : Int) := by omega
      have k1' : (k : Int) < (T.length : Int) := by omega
      have HB : Hid (T.take (k + 1) = T.take k ++ [t]) := by show _ = _; rw [List.take_add_one, ht]; rfl
      have hlen : (T.take k).length = k := by rw [List.length_take]; omega
      have T3 := (hT.keep (bel1 (.cells #[.int .i64 t.x, .int .i64 t.y, .int .i64 t.lo, .int .i64 t.hi, .int .i64 t.in_, .int .i64 t.out] 194))).keep (bel1 (.cells #[.int .i64 t.x, .int .i64 t.y, .int .i64 t.lo, .int .i64 t.hi, .int .i64 t.in_, .int .i64 t.out] 195))
      have zN := hT.lt
      clear ht
      go_wp2_with (at_builtin; refine wpList_append_own _ rfl (.tmp 17) (.tmp 19) 130 rfl N 195 i0 (.agg #[.int .i64 0, .int .i64 0, .int .i64 0, .int .i64 0, .int .i64 0, .int .i64 0]) 6 48 Tryz.underlying130 hi hz0 hz1 hz2 rfl (by decide) u7 _ _ rfl T3.own ⟨wr.heap.size + 1, 0, none⟩ 1 1 (Bx.cells t) rfl rfl (six_new2P wr t _ _) (by simp [Value.oneCell']) (by unfold maxLen; omega) (by omega) (by simp; omega) ?_; intro v7 w7 hown7 hgrow7 hnil7)
      go_roundw
      case rel => exact ⟨k + 1, by omega, by go_num, by rw [HB.out]; exact T3.push hN hgrow7 hown7⟩
      case measure => simp [intOf]; omega
    · obtain rfl : k = T.length := by omega
      rw [List.take_length] at hT
      obtain ⟨av, gv, cv, rfl, R2⟩ := owns_rowB hT.own
      go_wp2_with fail
      refine (cutI_any nm av gv 0 cv T n _ (by omega) R2.at_).mono ?_
      rintro e w3 ⟨v3, rfl, ho3, hb3⟩
      rw [(HT.out av gv 0 cv).1]
      rw [(HT.out av gv 0 cv).2] at ho3
      have T3 := hT.keep hb3
      obtain ⟨r0, r1, rf⟩ := blk2 T3.res
      obtain ⟨va, vc, rfl⟩ := owns_slice ho3
      have z1 := lt_of_block hT.res
      have z2 := hT.old.size
      clear hT
      go_wp2
      refine bodyPost_ret (v := .agg #[.string (cutNm (pathTb nm q s fr b l)), .slice va (cutBx (pathTb nm q s fr b l) n).length vc]) (by simp [results, Tryz.results100, go_sem, *]) rfl ⟨_, rfl, ?_, ?_⟩
      · refine owns_lower (base := wr.heap.size) ?_ (by omega)
        iterate 2 (refine owns_set ?_ (fun k e => by have := owns_base ho3 k e; omega) _ _)
        exact ho3
      · iterate 2 (refine Below.setCell ?_ (by simp) _)
        exact T3.old
end Go.Proofs.YtgjleeamhkolhaaGreatDoor

namespace Go.Proofs.YtgjleeamhkolhaaGreatDoor
open Go.RowKit

abbrev nmA : ByteArray := ⟨#[97]⟩
abbrev nmAny : ByteArray := ⟨#[97, 110, 121]⟩
theorem nameA : nameB nmA = true := by decide +kernel
theorem nameAny : nameB nmAny = true := by decide +kernel
theorem cutBx_name {nm nm' : ByteArray} (h : nameB nm = true) (h' : nameB nm' = true) (q s fr b n : Int) (l : List Stp) : cutBx (pathTb nm q s fr b l) n = cutBx (pathTb nm' q s fr b l) n := by
  unfold cutBx tubeB
  simp only [h, h']
end Go.Proofs.YtgjleeamhkolhaaGreatDoor
