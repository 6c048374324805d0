/- Joined texts: PbCutI, LkTubeI, LkPt, Copy, Copy2, Eq, LkLeft, LkBook, LkPastD. -/
import Derived.Deep.RegionHeld3
import Derived.WalkKit
import Derived.WalkSpells
import Derived.Test.YtfmdejilhbankaaGreatRows
import Derived.Test.YtfmdejilhbankaaGreatJ03
import Derived.Test.YtfmdejilhbankaaGreatPbField
import Derived.Test.YtfmdejilhbankaaGreatJ02
import Derived.Test.YtfmdejilhbankaaGreatSpanMath
import Derived.Test.YtfmdejilhbankaaGreatPbBel
import Derived.Test.YtfmdejilhbankaaGreatData
namespace Go.Proofs.YtfmdejilhbankaaGreat
open Go.RowKit

set_option maxHeartbeats 4000000 in
set_option maxRecDepth 20000 in
theorem from_any (a : Option Addr) (b o cap : Nat) (l : List Bx) (n : Int) (w : World) (hl : l.length ≤ 1048576) (hs : BoxesAt w a b o l) :
    Calls Tryz.prog 127 #[.slice a l.length cap, .int .i64 n] w
      fun e w' => ∃ v, e = .returned v ∧ w'.ownsRow w.heap.size 133 6 v (cutL n l).length (rowC (cutL n l)) ∧ Below w.heap.size w w' := by
  obtain ⟨i0, hi, hz0, hz1, hz2⟩ := info_parts pbox_info
  go_enter Tryz.func127, Tryz.ntmps127
  go_wp2
  go_loopw [5, 10] (fun v x wr => ∃ k : Nat, k ≤ l.length ∧ x = .int .i64 k ∧ Below w.heap.size w wr ∧ wr.ownsRow w.heap.size 133 6 v (cutL n (l.take k)).length (rowC (cutL n (l.take k)))) (fun _ x _ => l.length - (intOf x).toNat)
  case atStart => exact ⟨0, Nat.zero_le _, rfl, Below.refl _ _, World.ownsRow_nil _ _ _ _⟩
  case round =>
    obtain ⟨k, hk, rfl, hb, ho⟩ := hrel
    by_cases hlt : k < l.length
    · obtain ⟨s, hsk⟩ : ∃ s, l[k]? = some s := ⟨l[k], List.getElem?_eq_getElem hlt⟩
      have hne : l ≠ [] := by intro e; subst e; simp at hlt
      obtain rfl := hs.here hne
      have hbw := hs.lt hne
      obtain ⟨c0, c1, c2, c3, c4, c5⟩ := (hs.below hb (fun _ => hbw)).six hsk
      have k0 : (0 : Int) ≤ (k : Int) := by omega
      have k1 : (k : Int) < (l.length : Int) := by omega
      have HS : Hid (l[k]? = some s) := hsk
      have hlen := cutL_len_take n l k
      clear hsk
      by_cases h2 : n ≤ s.out
      · by_cases h3 : s.in_ < n
        · have HT : Hid (cutL n (l.take (k + 1)) = cutL n (l.take k) ++ [{ s with in_ := n }]) := by show _ = _; rw [cutL_take HS.out, if_pos (by omega), show max s.in_ n = n by omega]
          have O1 := owns_below ho (bel2 (.cells #[.int .i64 s.x, .int .i64 s.y, .int .i64 s.lo, .int .i64 s.hi, .int .i64 n, .int .i64 s.out] 133) (.cells #[.int .i64 s.x, .int .i64 s.y, .int .i64 s.lo, .int .i64 s.hi, .int .i64 n, .int .i64 s.out] 133))
          have B1 := (hb.alloc hb.size (.cells #[.int .i64 s.x, .int .i64 s.y, .int .i64 s.lo, .int .i64 s.hi, .int .i64 n, .int .i64 s.out] 133)).alloc (by simp; have := hb.size; omega) (.cells #[.int .i64 s.x, .int .i64 s.y, .int .i64 s.lo, .int .i64 s.hi, .int .i64 n, .int .i64 s.out] 133)
          go_wp2_with (at_builtin; refine wpList_append_own _ rfl (.tmp 23) (.tmp 25) 94 rfl w.heap.size 133 i0 (.agg #[.int .i64 0, .int .i64 0, .int .i64 0, .int .i64 0, .int .i64 0, .int .i64 0]) 6 48 Tryz.underlying94 hi hz0 hz1 hz2 rfl (by decide) u5 _ _ rfl O1 ⟨wr.heap.size + 1, 0, none⟩ 1 1 (Bx.cells { s with in_ := n }) rfl rfl (six_new2P wr { s with in_ := n } _ _) (by simp [Value.oneCell']) (by unfold maxLen; omega) (by omega) (by simp; have := hb.size; omega) ?_; intro v7 w7 hown7 hgrow7 hnil7)
          go_roundw
          case rel => exact ⟨k + 1, by omega, by go_num, B1.grown hgrow7 (by simp; have := hb.size; omega) (owns_base O1), by rw [HT.out, rowC_snoc, List.length_append]; exact hown7⟩
          case measure => simp [intOf]; omega
        · have HT : Hid (cutL n (l.take (k + 1)) = cutL n (l.take k) ++ [s]) := by show _ = _; rw [cutL_take HS.out, if_pos (by omega), show max s.in_ n = s.in_ by omega]
          have O1 := owns_below ho (bel2 (.cells #[.int .i64 s.x, .int .i64 s.y, .int .i64 s.lo, .int .i64 s.hi, .int .i64 s.in_, .int .i64 s.out] 133) (.cells #[.int .i64 s.x, .int .i64 s.y, .int .i64 s.lo, .int .i64 s.hi, .int .i64 s.in_, .int .i64 s.out] 133))
          have B1 := (hb.alloc hb.size (.cells #[.int .i64 s.x, .int .i64 s.y, .int .i64 s.lo, .int .i64 s.hi, .int .i64 s.in_, .int .i64 s.out] 133)).alloc (by simp; have := hb.size; omega) (.cells #[.int .i64 s.x, .int .i64 s.y, .int .i64 s.lo, .int .i64 s.hi, .int .i64 s.in_, .int .i64 s.out] 133)
          go_wp2_with (at_builtin; refine wpList_append_own _ rfl (.tmp 23) (.tmp 25) 94 rfl w.heap.size 133 i0 (.agg #[.int .i64 0, .int .i64 0, .int .i64 0, .int .i64 0, .int .i64 0, .int .i64 0]) 6 48 Tryz.underlying94 hi hz0 hz1 hz2 rfl (by decide) u5 _ _ rfl O1 ⟨wr.heap.size + 1, 0, none⟩ 1 1 (Bx.cells s) rfl rfl (six_new2P wr s _ _) (by simp [Value.oneCell']) (by unfold maxLen; omega) (by omega) (by simp; have := hb.size; omega) ?_; intro v7 w7 hown7 hgrow7 hnil7)
          go_roundw
          case rel => exact ⟨k + 1, by omega, by go_num, B1.grown hgrow7 (by simp; have := hb.size; omega) (owns_base O1), by rw [HT.out, rowC_snoc, List.length_append]; exact hown7⟩
          case measure => simp [intOf]; omega
      · have HT : Hid (cutL n (l.take (k + 1)) = cutL n (l.take k)) := by show _ = _; rw [cutL_take HS.out, if_neg h2]
        go_wp2
        go_roundw
        case rel => exact ⟨k + 1, by omega, by go_num, hb.alloc hb.size _, by rw [HT.out]; exact owns_below ho (bel1 _)⟩
        case measure => simp [intOf]; omega
    · obtain rfl : k = l.length := by omega
      rw [List.take_length] at ho
      go_wp2
      go_ret
      exact ⟨_, rfl, ho, hb⟩

/-- The blocks of the call: the tube, the answer. -/
structure ResW (w wr : World) (t : Tb) : Prop where
  old : Below w.heap.size w wr
  tube : wr.heap[w.heap.size]? = some (.cells #[.string t.nm, .slice t.a t.l.length t.cap] 96 (0, 0))
  res : wr.heap[w.heap.size + 1]? = some (.cells #[.string ⟨#[]⟩, .slice none 0 0] 96 (0, 0))
theorem ResW.keep {w wr w2 : World} {t : Tb} (h : ResW w wr t) (hb : Below wr.heap.size wr w2) : ResW w w2 t :=
  ⟨h.old.trans (hb.mono h.old.size), (hb.block _ (lt_of_block h.tube)).trans h.tube, (hb.block _ (lt_of_block h.res)).trans h.res⟩
theorem ResW.new (w w1 : World) (t : Tb) (hb : Below ((w.alloc (.cells #[.string t.nm, .slice t.a t.l.length t.cap] 96)).alloc (.cells #[.string ⟨#[]⟩, .slice none 0 0] 96)).heap.size ((w.alloc (.cells #[.string t.nm, .slice t.a t.l.length t.cap] 96)).alloc (.cells #[.string ⟨#[]⟩, .slice none 0 0] 96)) w1) : ResW w w1 t where
  old := (bel2 _ _).trans (hb.mono (by simp; omega))
  tube := (hb.block _ (by simp; omega)).trans ((Below.heap_alloc _ _ _ (by simp)).trans (heap_alloc_new w _))
  res := (hb.block _ (by simp)).trans (by have := heap_alloc_new (w.alloc (.cells #[.string t.nm, .slice t.a t.l.length t.cap] 96)) (.cells #[.string ⟨#[]⟩, .slice none 0 0] 96); rwa [World.size_alloc] at this)

set_option maxHeartbeats 4000000 in
set_option maxRecDepth 20000 in
theorem cutI_any (nm : ByteArray) (a : Option Addr) (b o cap : Nat) (l : List Bx) (n : Int) (w : World) (hl : l.length ≤ 1048576) (hs : BoxesAt w a b o l) :
    Calls Tryz.prog 93 #[.agg #[.string nm, .slice a l.length cap], .int .i64 n] w
      fun e w' => ∃ v, e = .returned (.agg #[.string (cutNm ⟨nm, a, b, o, cap, l⟩), v]) ∧ w'.ownsRow w.heap.size 133 6 v (cutBx ⟨nm, a, b, o, cap, l⟩ n).length (rowC (cutBx ⟨nm, a, b, o, cap, l⟩ n)) ∧ Below w.heap.size w w' := by
  have A0 : TubeAt w ⟨nm, a, b, o, cap, l⟩ := ⟨hs⟩
  cases h1 : tubeB ⟨nm, a, b, o, cap, l⟩ with
  | false =>
    have G : Hid (cutNm ⟨nm, a, b, o, cap, l⟩ = ⟨#[]⟩ ∧ cutBx ⟨nm, a, b, o, cap, l⟩ n = []) := by show _ ∧ _; unfold cutNm cutBx; rw [h1]; simp
    have H1 : Hid (tubeB ⟨nm, a, b, o, cap, l⟩ = false) := h1
    clear h1
    go_enter Tryz.func93, Tryz.ntmps93
    go_wp2_with fail
    refine (tubeOk_val ⟨nm, a, b, o, cap, l⟩ false _ hl (A0.below (bel2 _ _)) H1.out).mono ?_
    rintro e w1 ⟨rfl, hb1⟩
    have C := ResW.new w w1 ⟨nm, a, b, o, cap, l⟩ hb1
    obtain ⟨r0, r1, rf⟩ := blk2 C.res
    clear hb1
    go_wp2
    refine bodyPost_ret (v := .agg #[.string ⟨#[]⟩, .slice none 0 0]) (by simp [results, Tryz.results93, go_sem, *]) rfl ⟨.slice none 0 0, by rw [G.out.1], by rw [G.out.2]; exact World.ownsRow_nil _ _ _ _, ?_⟩
    iterate 2 (refine Below.setCell ?_ (by simp) _)
    exact C.old
  | true =>
    have G : Hid (cutNm ⟨nm, a, b, o, cap, l⟩ = nm ∧ cutBx ⟨nm, a, b, o, cap, l⟩ n = cutL n l) := by show _ ∧ _; unfold cutNm cutBx; rw [h1]; simp
    have H1 : Hid (tubeB ⟨nm, a, b, o, cap, l⟩ = true) := h1
    clear h1
    go_enter Tryz.func93, Tryz.ntmps93
    go_wp2_with fail
    refine (tubeOk_val ⟨nm, a, b, o, cap, l⟩ true _ hl (A0.below (bel2 _ _)) H1.out).mono ?_
    rintro e w1 ⟨rfl, hb1⟩
    have C1 := ResW.new w w1 ⟨nm, a, b, o, cap, l⟩ hb1
    have C1d : ResW w w1.drew ⟨nm, a, b, o, cap, l⟩ := C1.keep ((Below.refl _ _).drew)
    obtain ⟨t0, t1, tf⟩ := blk2 C1.tube
    have hfd := fun wx => lane_field nm a l.length cap wx
    clear hb1 A0
    go_wp2
    go_region_held3 (fun w' => w'.cell? ⟨w.heap.size, 0, none⟩ = some (.string nm) ∧ w'.cell? ⟨w.heap.size, 1, none⟩ = some (.slice a l.length cap))
      (simp [go_sem, *])
      (first
        | (go_at_call 104; refine (lane_at nm a cap l _).mono ?_; rintro e w2 ⟨rfl, hb2⟩; have C2 := C1d.keep hb2; obtain ⟨s0, s1, sf⟩ := blk2 C2.tube)
        | (go_at_call 127; refine (from_any _ b o _ l _ _ hl (hs.below C2.old hs.lt)).mono ?_; rintro e w3 ⟨v3, rfl, ho3, hb3⟩; have C3 := C2.keep hb3; obtain ⟨q0, q1, qf⟩ := blk2 C3.tube; obtain ⟨r0, r1, rf⟩ := blk2 C3.res; obtain ⟨va, vc, rfl⟩ := owns_slice ho3; have D3 := C2.old.size))
    go_wp2
    refine bodyPost_ret (v := .agg #[.string nm, .slice va (cutL n l).length vc]) (by simp [results, Tryz.results93, go_sem, *]) rfl ⟨_, by rw [G.out.1], ?_, ?_⟩
    · rw [G.out.2]
      refine owns_lower (base := w2.heap.size) ?_ D3
      have z2 := lt_of_block C2.res
      iterate 2 (refine owns_set ?_ (fun k e => by have := owns_base ho3 k e; omega) _ _)
      exact ho3
    · iterate 2 (refine Below.setCell ?_ (by simp) _)
      exact C3.old
end Go.Proofs.YtfmdejilhbankaaGreat

namespace Go.Proofs.YtfmdejilhbankaaGreat
open Go.RowKit

/-- The tube of a path under a name, as data. -/
abbrev pathTb (nm : ByteArray) (q s fr b : Int) (l : List Stp) : Tb := ⟨nm, none, 0, 0, 0, tubeL q s fr b l⟩
theorem tubeL_len (q s fr b : Int) (l : List Stp) : (tubeL q s fr b l).length ≤ 40 := by
  unfold tubeL
  split
  · rename_i h
    rw [tubeTo_length]
    exact fly_len h
  · simp

/-- What lies while boxes of the one kind are laid as boxes of the other: all that lay, the answer's block, the tube, the boxes up to now. -/
structure LtW (w wr : World) (N : Nat) (c : Option Addr) (cb : Nat) (T : List Bx) (v : Value) (m : List Bx) : Prop where
  old : Below w.heap.size w wr
  res : wr.heap[w.heap.size + 1]? = some (.cells #[.string ⟨#[]⟩, .slice none 0 0] 96 (0, 0))
  lt : N ≤ wr.heap.size
  tb : BoxesAt wr c cb 0 T
  tbN : T ≠ [] → cb < N
  own : wr.ownsRow N 133 6 v m.length (rowC m)
section
variable {w wr w' : World} {N cb : Nat} {c : Option Addr} {T m : List Bx} {v : Value}
theorem LtW.keep (h : LtW w wr N c cb T v m) (hb : Below wr.heap.size wr w') : LtW w w' N c cb T v m :=
  ⟨h.old.trans (hb.mono h.old.size), (hb.block _ (lt_of_block h.res)).trans h.res, Nat.le_trans h.lt hb.size, h.tb.below hb h.tb.lt, h.tbN, owns_below h.own hb⟩
theorem LtW.push {v7 : Value} {t : Bx} (h : LtW w wr N c cb T v m) (hN : w.heap.size + 1 < N) (hg : wr.grownBy w' v.ownBlock) (ho : w'.ownsRow N 133 6 v7 (m.length + 1) (rowC m ++ t.cells)) : LtW w w' N c cb T v7 (m ++ [t]) := by
  have hbase := owns_base h.own
  refine ⟨h.old.grown hg h.old.size (fun k e => by have := hbase k e; omega), (hg.block _ (lt_of_block h.res) (fun e => by have := hbase _ e.symm; omega)).trans h.res, Nat.le_trans h.lt hg.size,
    h.tb.grown hg (fun hne e => by have := hbase _ e.symm; have := h.tbN hne; omega), h.tbN, ?_⟩
  rw [rowC_snoc, List.length_append]
  exact ho
end

set_option maxRecDepth 20000 in
set_option maxHeartbeats 4000000 in
theorem linkTubeI_any (hI : SpansSaid) (nm : ByteArray) (q s fr b : Int) (a : Option Addr) (b0 o cap : Nat) (l : List Stp) (n : Int) (w : World) (hl : l.length ≤ 1048576) (hs : StepsAt w a b0 o l) :
    Calls Tryz.prog 64 #[.string nm, .agg #[.int .i64 q, .int .i64 s, .slice a l.length cap, .int .i64 fr, .int .i64 b], .int .i64 n] w
      fun e w' => ∃ v, e = .returned (.agg #[.string (cutNm (pathTb nm q s fr b l)), v]) ∧ w'.ownsRow w.heap.size 133 6 v (cutBx (pathTb nm q s fr b l) n).length (rowC (cutBx (pathTb nm q s fr b l) n)) ∧ Below w.heap.size w w' := by
  obtain ⟨i0, hi, hz0, hz1, hz2⟩ := info_parts pbox_info
  have B0 : Below w.heap.size w ((w.alloc (.cells #[.int .i64 q, .int .i64 s, .slice a l.length cap, .int .i64 fr, .int .i64 b] 43)).alloc (.cells #[.string ⟨#[]⟩, .slice none 0 0] 96)) := bel2 _ _
  have R0 : ((w.alloc (.cells #[.int .i64 q, .int .i64 s, .slice a l.length cap, .int .i64 fr, .int .i64 b] 43)).alloc (.cells #[.string ⟨#[]⟩, .slice none 0 0] 96)).heap[w.heap.size + 1]? = some (.cells #[.string ⟨#[]⟩, .slice none 0 0] 96 (0, 0)) := by
    have := heap_alloc_new (w.alloc (.cells #[.int .i64 q, .int .i64 s, .slice a l.length cap, .int .i64 fr, .int .i64 b] 43)) (.cells #[.string ⟨#[]⟩, .slice none 0 0] 96)
    rwa [World.size_alloc] at this
  have ht40 := tubeL_len q s fr b l
  go_enter Tryz.func64, Tryz.ntmps64
  go_wp2_with fail
  refine (flyTubeI_any hI q s fr b a b0 o cap l _ hl (hs.below B0 hs.lt)).mono ?_
  rintro e w1 ⟨v1, rfl, ho1, hb1⟩
  obtain ⟨c1, g1, k1, rfl, R1⟩ := owns_rowB ho1
  have L1 : LtW w w1 w1.heap.size c1 g1 (tubeL q s fr b l) (.slice none 0 0) ((tubeL q s fr b l).take 0) :=
    ⟨B0.trans (hb1.mono B0.size), (hb1.block _ (lt_of_block R0)).trans R0, Nat.le_refl _, R1.at_, R1.at_.lt, World.ownsRow_nil _ _ _ _⟩
  have hN : w.heap.size + 1 < w1.heap.size := lt_of_block L1.res
  clear B0 R0 ho1 hb1 R1
  have HT : Hid (∀ a b0 o cap, cutNm ⟨nm, a, b0, o, cap, tubeL q s fr b l⟩ = cutNm (pathTb nm q s fr b l) ∧ cutBx ⟨nm, a, b0, o, cap, tubeL q s fr b l⟩ n = cutBx (pathTb nm q s fr b l) n) := fun _ _ _ _ => ⟨rfl, rfl⟩
  generalize tubeL q s fr b l = T at *
  go_wp2
  generalize w1.heap.size = N at *
  go_loopw [7, 13] (fun v x wr => ∃ k : Nat, k ≤ T.length ∧ x = .int .i64 k ∧ LtW w wr N c1 g1 T v (T.take k)) (fun _ x _ => T.length - (intOf x).toNat)
  case atStart => exact ⟨0, Nat.zero_le _, rfl, L1⟩
  case round =>
    clear L1
    obtain ⟨k, hk, rfl, hT⟩ := hrel
    by_cases hlt : k < T.length
    · obtain ⟨t, ht⟩ : ∃ t, T[k]? = some t := ⟨T[k], List.getElem?_eq_getElem hlt⟩
      have hne : T ≠ [] := by intro e; subst e; simp at hlt
      obtain rfl := hT.tb.here hne
      obtain ⟨c0, c1, c2, c3, c4, c5⟩ := hT.tb.six ht
      simp only [Nat.zero_add] at c0 c1 c2 c3 c4 c5
      have k0 : (0 : Int) ≤ (k : Int) := by omega
      have k1' : (k : Int) < (T.length : Int) := by omega
      have HB : Hid (T.take (k + 1) = T.take k ++ [t]) := by show _ = _; rw [List.take_add_one, ht]; rfl
      have hlen : (T.take k).length = k := by rw [List.length_take]; omega
      have T3 := (hT.keep (bel1 (.cells #[.int .i64 t.x, .int .i64 t.y, .int .i64 t.lo, .int .i64 t.hi, .int .i64 t.in_, .int .i64 t.out] 132))).keep (bel1 (.cells #[.int .i64 t.x, .int .i64 t.y, .int .i64 t.lo, .int .i64 t.hi, .int .i64 t.in_, .int .i64 t.out] 133))
      have zN := hT.lt
      clear ht
      go_wp2_with (at_builtin; refine wpList_append_own _ rfl (.tmp 17) (.tmp 19) 94 rfl N 133 i0 (.agg #[.int .i64 0, .int .i64 0, .int .i64 0, .int .i64 0, .int .i64 0, .int .i64 0]) 6 48 Tryz.underlying94 hi hz0 hz1 hz2 rfl (by decide) u7 _ _ rfl T3.own ⟨wr.heap.size + 1, 0, none⟩ 1 1 (Bx.cells t) rfl rfl (six_new2P wr t _ _) (by simp [Value.oneCell']) (by unfold maxLen; omega) (by omega) (by simp; omega) ?_; intro v7 w7 hown7 hgrow7 hnil7)
      go_roundw
      case rel => exact ⟨k + 1, by omega, by go_num, by rw [HB.out]; exact T3.push hN hgrow7 hown7⟩
      case measure => simp [intOf]; omega
    · obtain rfl : k = T.length := by omega
      rw [List.take_length] at hT
      obtain ⟨av, gv, cv, rfl, R2⟩ := owns_rowB hT.own
      go_wp2_with fail
      refine (cutI_any nm av gv 0 cv T n _ (by omega) R2.at_).mono ?_
      rintro e w3 ⟨v3, rfl, ho3, hb3⟩
      rw [(HT.out av gv 0 cv).1]
      rw [(HT.out av gv 0 cv).2] at ho3
      have T3 := hT.keep hb3
      obtain ⟨r0, r1, rf⟩ := blk2 T3.res
      obtain ⟨va, vc, rfl⟩ := owns_slice ho3
      have z1 := lt_of_block hT.res
      have z2 := hT.old.size
      clear hT
      go_wp2
      refine bodyPost_ret (v := .agg #[.string (cutNm (pathTb nm q s fr b l)), .slice va (cutBx (pathTb nm q s fr b l) n).length vc]) (by simp [results, Tryz.results64, go_sem, *]) rfl ⟨_, rfl, ?_, ?_⟩
      · refine owns_lower (base := wr.heap.size) ?_ (by omega)
        iterate 2 (refine owns_set ?_ (fun k e => by have := owns_base ho3 k e; omega) _ _)
        exact ho3
      · iterate 2 (refine Below.setCell ?_ (by simp) _)
        exact T3.old
end Go.Proofs.YtfmdejilhbankaaGreat

namespace Go.Proofs.YtfmdejilhbankaaGreat
open Go.RowKit

/-- A path, as an argument. -/
structure Pt where
  q : Int
  s : Int
  fr : Int
  b : Int
  a : Option Addr
  b0 : Nat
  o : Nat
  cap : Nat
  l : List Stp
abbrev Pt.val (p : Pt) : Value := .agg #[.int .i64 p.q, .int .i64 p.s, .slice p.a p.l.length p.cap, .int .i64 p.fr, .int .i64 p.b]
abbrev Pt.put (p : Pt) (g : Nat) : Pt := ⟨p.q, p.s, p.fr, p.b, some ⟨g, 0, none⟩, g, 0, p.l.length, p.l⟩
/-- Its steps lie there. -/
abbrev PtAt (w : World) (p : Pt) : Prop := StepsAt w p.a p.b0 p.o p.l
/-- Nothing. -/
def Pt.none (p : Pt) : Bool := (p.q == 0 && p.s == 0) && decide (p.l.length = 0) && (p.fr == 0) && (p.b == 0)
end Go.Proofs.YtfmdejilhbankaaGreat

namespace Go.Proofs.YtfmdejilhbankaaGreat
open Go.RowKit

theorem toStep_any (x y lo hi fr b : Int) (ho : Bool) (w : World) :
    Calls Tryz.prog 62 #[.agg #[.int .i64 x, .int .i64 y, .int .i64 lo, .int .i64 hi, .int .i64 fr, .int .i64 b, .bool ho]] w
      fun e w' => e = .returned (.agg #[.int .i64 x, .int .i64 y, .int .i64 lo, .int .i64 hi, .int .i64 fr, .int .i64 b, .bool ho]) ∧ Below w.heap.size w w' := by
  go_enter Tryz.func62, Tryz.ntmps62
  go_wp2
  refine bodyPost_ret (v := .agg #[.int .i64 x, .int .i64 y, .int .i64 lo, .int .i64 hi, .int .i64 fr, .int .i64 b, .bool ho]) (by simp [results, Tryz.results62, go_sem]) rfl ⟨rfl, ?_⟩
  exact (((Below.refl _ _).alloc (Nat.le_refl _) _).alloc (by simp) _).alloc (by simp; omega) _

theorem toKind_any (q s : Int) (w : World) :
    Calls Tryz.prog 36 #[.agg #[.int .i64 q, .int .i64 s]] w fun e w' => e = .returned (.agg #[.int .i64 q, .int .i64 s]) ∧ Below w.heap.size w w' := by
  go_enter Tryz.func36, Tryz.ntmps36
  go_wp2
  refine bodyPost_ret (v := .agg #[.int .i64 q, .int .i64 s]) (by simp [results, Tryz.results36, go_sem]) rfl ⟨rfl, ?_⟩
  exact (((Below.refl _ _).alloc (Nat.le_refl _) _).alloc (by simp) _).alloc (by simp; omega) _


set_option maxHeartbeats 1000000 in
theorem toSteps_more (a : Option Addr) (b o cap : Nat) (l : List Stp) (w : World) (hl : l.length ≤ 1048576) (hs : StepsAt w a b o l) :
    Calls Tryz.prog 37 #[.slice a l.length cap] w
      fun e w' => ∃ g, e = .returned (.slice (some ⟨g, 0, none⟩) l.length l.length) ∧ w.heap.size ≤ g ∧ g < w'.heap.size ∧ StepsAt w' (some ⟨g, 0, none⟩) g 0 l ∧ Below w.heap.size w w' ∧ ∀ i, i < l.length → w'.there g (i * 7) 7 := by
  obtain ⟨i0, hi, hz0, hz1, hz2⟩ := info_parts step_info
  go_enter Tryz.func37, Tryz.ntmps37
  go_wp2_with (first | (at_make; refine wpList_make_full _ rfl _ _ 41 rfl w.heap.size 102 i0 _ 7 Tryz.underlying41 hi hz0 hz1 .i64 .i64 _ _ l.length rfl rfl rfl rfl (by rw [hz2]; omega) (by unfold maxLen; omega) (Nat.le_refl _) ?_; intro w1 hown1 hgrow1))
  have hz : (madeCells (Value.agg #[.int .i64 0, .int .i64 0, .int .i64 0, .int .i64 0, .int .i64 0, .int .i64 0, .bool false]).cells (l.length * 7)).toList.length = l.length * 7 := hown1.1
  obtain ⟨hlen1, hrow1⟩ := hown1
  have hb1 : Below w.heap.size w w1 := (Below.refl _ _).grown hgrow1 (Nat.le_refl _) (fun k e => by cases e)
  obtain ⟨cur, hcur, hsz⟩ : ∃ cur, w1.heap[w.heap.size]? = some (.cells cur 102 (0, 0)) ∧ cur.size = l.length * 7 := by
    rcases hrow1 with ⟨h, _⟩ | ⟨g, cap, cur, h, _, hh, _, _, hs, _⟩
    · cases h
    · simp at h
      obtain ⟨rfl, rfl⟩ := h
      exact ⟨cur, hh, hs⟩
  clear hlen1 hrow1 hz hgrow1
  have hth : ∀ i, i < l.length → w1.there w.heap.size (i * 7) 7 := fun i hi => there_of_block hcur _ _ (by omega)
  have hgr1 : w.heap.size < w1.heap.size := lt_of_block hcur
  go_loopw [4] (fun v wr => ∃ k : Nat, k ≤ l.length ∧ v = .int .i64 k ∧ Below w.heap.size w wr ∧ w.heap.size < wr.heap.size ∧ (∀ i, i < l.length → wr.there w.heap.size (i * 7) 7) ∧ (∀ (i : Nat) (s : Stp), i < k → l[i]? = some s → wr.rangeAt w.heap.size (i * 7) s.cells))
    (fun v _ => l.length - (intOf v).toNat)
  case atStart => exact ⟨0, Nat.zero_le _, rfl, hb1, hgr1, hth, fun i s h => absurd h (by omega)⟩
  case round =>
    obtain ⟨k, hk, rfl, hb, hgr, hthr, hdone⟩ := hrel
    by_cases hlt : k < l.length
    · obtain ⟨s, hsk⟩ : ∃ s, l[k]? = some s := ⟨l[k], List.getElem?_eq_getElem hlt⟩
      have hne : l ≠ [] := by intro e; subst e; simp at hlt
      obtain rfl := hs.here hne
      have hbw := hs.lt hne
      obtain ⟨c0, c1, c2, c3, c4, c5, c6⟩ := (hs.below hb (fun _ => hbw)).seven hsk
      go_wp2_with fail
      refine (toStep_any _ _ _ _ _ _ _ _).mono ?_
      rintro e w2 ⟨rfl, hb2⟩
      have hth2 : w2.there w.heap.size (k * 7) 7 := there_below (hthr k hlt) hb2 hgr
      have HT : Hid (w2.there w.heap.size (k * 7) 7) := hth2
      go_wp2_with (refine store_step rfl (.tmp 21) (.tmp 20) rfl w.heap.size (k * 7) s rfl rfl hth2 ?_; clear hth2)
      go_roundw
      case rel =>
        refine ⟨k + 1, by omega, by go_num, below_setCells (Nat.le_refl _) _ _ _ _ (hb.trans (hb2.mono (by have := hb.size; omega))), ?_, ?_, ?_⟩
        · rw [size_setCells]; have := hb2.size; omega
        · intro i hi
          exact World.there_setCells (there_below (hthr i hi) hb2 hgr) _ _ _
        · intro i s' hi hs'
          by_cases hik : i = k
          · subst hik
            obtain rfl : s = s' := by rw [hsk] at hs'; simpa using hs'
            exact World.rangeAt_setCells_same _ _ _ _ HT.out
          · exact World.rangeAt_setCells_apart (range_below (hdone i s' (by omega) hs') hb2 hgr) _ _ _ (by right; left; simp; omega)
      case measure => simp [intOf]; omega
    · have hkl : k = l.length := by omega
      subst hkl
      go_wp2
      go_ret
      exact ⟨w.heap.size, rfl, Nat.le_refl _, hgr, ⟨fun _ => rfl, fun _ => hgr, fun i s hi => by simpa using hdone i s (List.getElem?_eq_some_iff.1 hi).1 hi⟩, hb, hthr⟩

theorem toSteps_any (a : Option Addr) (b o cap : Nat) (l : List Stp) (w : World) (hl : l.length ≤ 1048576) (hs : StepsAt w a b o l) :
    Calls Tryz.prog 37 #[.slice a l.length cap] w
      fun e w' => ∃ g, e = .returned (.slice (some ⟨g, 0, none⟩) l.length l.length) ∧ w.heap.size ≤ g ∧ g < w'.heap.size ∧ StepsAt w' (some ⟨g, 0, none⟩) g 0 l ∧ Below w.heap.size w w' :=
  (toSteps_more a b o cap l w hl hs).mono fun _ _ ⟨g, h1, h2, h3, h4, h5, _⟩ => ⟨g, h1, h2, h3, h4, h5⟩
end Go.Proofs.YtfmdejilhbankaaGreat

namespace Go.Proofs.YtfmdejilhbankaaGreat
open Go.RowKit


/-- A store anywhere leaves places that can be written. -/
theorem there_set {w : World} {b o n : Nat} (h : w.there b o n) (pb po : Nat) (v : Value) : (w.setCell ⟨pb, po, none⟩ v).there b o n := World.there_setCells h pb po [v]

theorem szSteps_any (a : Option Addr) (n cap : Nat) (left : Int) (w : World) (hn : n ≤ maxLen) (h0 : -1 ≤ left) (h1 : left ≤ 1048576) :
    Calls Tryz.prog 33 #[.slice a n cap, .int .i64 left] w fun e w' => e = .returned (.int .i64 (leftB left n)) ∧ w' = w := by
  unfold maxLen at hn
  by_cases h : left - n < 0
  · go_enter Tryz.func33, Tryz.ntmps33
    go_wp2
    go_ret
    exact ⟨by simp [leftB, h], rfl⟩
  · go_enter Tryz.func33, Tryz.ntmps33
    go_wp2
    go_ret
    exact ⟨by rw [leftB, if_neg (by omega)]; rfl, rfl⟩


theorem szPath_any (q s fr b : Int) (a : Option Addr) (n cap : Nat) (left : Int) (w : World) (hn : n ≤ maxLen) (h0 : -1 ≤ left) (h1 : left ≤ 1048576) :
    Calls Tryz.prog 11 #[.agg #[.int .i64 q, .int .i64 s, .slice a n cap, .int .i64 fr, .int .i64 b], .int .i64 left] w fun e w' => e = .returned (.int .i64 (leftB left n)) ∧ Below w.heap.size w w' := by
  have hb := (Below.refl w.heap.size w).alloc (Nat.le_refl _) (.cells #[.int .i64 q, .int .i64 s, .slice a n cap, .int .i64 fr, .int .i64 b] 37)
  obtain ⟨k0, _⟩ := leftB_left left n h0 h1
  by_cases h : leftB left n < 0
  · have e1 : leftB left n = -1 := by omega
    go_enter Tryz.func11, Tryz.ntmps11
    go_wp2_with (go_at_call 33; refine (szSteps_any _ _ _ _ _ hn h0 h1).mono ?_; rintro e w' ⟨rfl, rfl⟩)
    go_ret
    exact ⟨by rw [e1]; rfl, hb⟩
  · go_enter Tryz.func11, Tryz.ntmps11
    go_wp2_with (go_at_call 33; refine (szSteps_any _ _ _ _ _ hn h0 h1).mono ?_; rintro e w' ⟨rfl, rfl⟩)
    go_ret
    exact ⟨rfl, hb⟩

set_option maxHeartbeats 1000000 in
theorem toPath_more (q s fr b : Int) (a : Option Addr) (b0 o cap : Nat) (l : List Stp) (w : World) (hl : l.length ≤ 1048576) (hs : StepsAt w a b0 o l) :
    Calls Tryz.prog 13 #[.agg #[.int .i64 q, .int .i64 s, .slice a l.length cap, .int .i64 fr, .int .i64 b]] w
      fun e w' => ∃ g, e = .returned (.agg #[.int .i64 q, .int .i64 s, .slice (some ⟨g, 0, none⟩) l.length l.length, .int .i64 fr, .int .i64 b]) ∧ w.heap.size ≤ g ∧ g < w'.heap.size ∧ StepsAt w' (some ⟨g, 0, none⟩) g 0 l ∧ Below w.heap.size w w' ∧ ∀ i, i < l.length → w'.there g (i * 7) 7 := by
  go_enter Tryz.func13, Tryz.ntmps13
  go_wp2_with fail
  refine (toKind_any _ _ _).mono ?_
  rintro e w1 ⟨rfl, hb1⟩
  obtain ⟨hc1, hf1⟩ := old_cells hb1
  have hz1 := hb1.size
  simp at hz1
  have hb01 : Below w.heap.size w w1 := ((((Below.refl w.heap.size w).alloc (Nat.le_refl _) _).alloc (by simp) _).alloc (by simp; omega) _).trans (hb1.mono (by simp; omega))
  have hs1 := hs.below hb01 (fun h => hs.lt h)
  go_wp2_with fail
  refine (toSteps_more _ b0 o _ _ _ hl ?_).mono ?_
  · exact hs.below ((hb01.setCell (by simp; omega) _).setCell (by simp; omega) _) (fun h => hs.lt h)
  rintro e w2 ⟨g, rfl, hg1, hg2, hs2, hb2, hth⟩
  have HTH : Hid (∀ i, i < l.length → w2.there g (i * 7) 7) := hth
  clear hth
  obtain ⟨hc2, hf2⟩ := old_cells hb2
  have hz2 := hb2.size
  simp [World.setCell] at hz2 hg1
  have hb02 : Below w.heap.size w w2 := ((hb01.setCell (by simp; omega) _).setCell (by simp; omega) _).trans (hb2.mono (by simp [World.setCell]; omega))
  have hC1 : ∀ b o, b < w.heap.size + 3 → w1.cell? ⟨b, o, none⟩ = _ := fun b o h => hc1 b o (by simp; omega)
  have hF1 : ∀ b o, b < w.heap.size + 3 → w1.frozen? ⟨b, o, none⟩ = _ := fun b o h => hf1 b o (by simp; omega)
  have hC2 : ∀ b o, b < w.heap.size + 3 → w2.cell? ⟨b, o, none⟩ = _ := fun b o h => hc2 b o (by simp [World.setCell]; omega)
  have hF2 : ∀ b o, b < w.heap.size + 3 → w2.frozen? ⟨b, o, none⟩ = _ := fun b o h => hf2 b o (by simp [World.setCell]; omega)
  clear hc1 hf1 hc2 hf2
  have a3 : w2.cell? ⟨w.heap.size, 3, none⟩ = some (.int .i64 fr) := by rw [hC2 _ _ (by omega)]; simp [go_sem, hC1]
  have a4 : w2.cell? ⟨w.heap.size, 4, none⟩ = some (.int .i64 b) := by rw [hC2 _ _ (by omega)]; simp [go_sem, hC1]
  have o0 : w2.cell? ⟨w.heap.size + 1 + 1, 0, none⟩ = some (.int .i64 q) := by rw [hC2 _ _ (by omega)]; simp [go_sem, hC1]
  have o1 : w2.cell? ⟨w.heap.size + 1 + 1, 1, none⟩ = some (.int .i64 s) := by rw [hC2 _ _ (by omega)]; simp [go_sem, hC1]
  have o2 : w2.cell? ⟨w.heap.size + 1 + 1, 2, none⟩ = some (.slice none 0 0) := by rw [hC2 _ _ (by omega)]; simp [go_sem, hC1]
  have o3 : w2.cell? ⟨w.heap.size + 1 + 1, 3, none⟩ = some (.int .i64 0) := by rw [hC2 _ _ (by omega)]; simp [go_sem, hC1]
  have o4 : w2.cell? ⟨w.heap.size + 1 + 1, 4, none⟩ = some (.int .i64 0) := by rw [hC2 _ _ (by omega)]; simp [go_sem, hC1]
  have fo : ∀ j, w2.frozen? ⟨w.heap.size + 1 + 1, j, none⟩ = false := by intro j; rw [hF2 _ _ (by omega)]; simp [go_sem, hF1]
  have r0 : w2.cell? ⟨w.heap.size + 1, 0, none⟩ = some (.int .i64 0) := by rw [hC2 _ _ (by omega)]; simp [go_sem, hC1]
  have r1 : w2.cell? ⟨w.heap.size + 1, 1, none⟩ = some (.int .i64 0) := by rw [hC2 _ _ (by omega)]; simp [go_sem, hC1]
  have r2 : w2.cell? ⟨w.heap.size + 1, 2, none⟩ = some (.slice none 0 0) := by rw [hC2 _ _ (by omega)]; simp [go_sem, hC1]
  have r3 : w2.cell? ⟨w.heap.size + 1, 3, none⟩ = some (.int .i64 0) := by rw [hC2 _ _ (by omega)]; simp [go_sem, hC1]
  have r4 : w2.cell? ⟨w.heap.size + 1, 4, none⟩ = some (.int .i64 0) := by rw [hC2 _ _ (by omega)]; simp [go_sem, hC1]
  have fr1 : ∀ j, w2.frozen? ⟨w.heap.size + 1, j, none⟩ = false := by intro j; rw [hF2 _ _ (by omega)]; simp [go_sem, hF1]
  clear hC1 hC2 hF1 hF2 hs1 hb01 hb1 hs
  go_wp2
  refine bodyPost_ret (v := .agg #[.int .i64 q, .int .i64 s, .slice (some ⟨g, 0, none⟩) l.length l.length, .int .i64 fr, .int .i64 b]) (by simp [results, Tryz.results13, go_sem, *]) rfl ⟨g, rfl, by omega, ?_, ?_, ?_, ?_⟩
  · simpa [World.setCell] using hg2
  · iterate 8 (refine StepsAt.set ?_ (by simp; omega) _)
    exact hs2
  · iterate 8 (refine Below.setCell ?_ (by simp <;> omega) _)
    exact hb02
  · intro i hi
    iterate 8 (refine there_set ?_ _ _ _)
    exact HTH.out i hi

theorem toPath_any (q s fr b : Int) (a : Option Addr) (b0 o cap : Nat) (l : List Stp) (w : World) (hl : l.length ≤ 1048576) (hs : StepsAt w a b0 o l) :
    Calls Tryz.prog 13 #[.agg #[.int .i64 q, .int .i64 s, .slice a l.length cap, .int .i64 fr, .int .i64 b]] w
      fun e w' => ∃ g, e = .returned (.agg #[.int .i64 q, .int .i64 s, .slice (some ⟨g, 0, none⟩) l.length l.length, .int .i64 fr, .int .i64 b]) ∧ w.heap.size ≤ g ∧ g < w'.heap.size ∧ StepsAt w' (some ⟨g, 0, none⟩) g 0 l ∧ Below w.heap.size w w' :=
  (toPath_more q s fr b a b0 o cap l w hl hs).mono fun _ _ ⟨g, h1, h2, h3, h4, h5, _⟩ => ⟨g, h1, h2, h3, h4, h5⟩
end Go.Proofs.YtfmdejilhbankaaGreat

namespace Go.Proofs.YtfmdejilhbankaaGreat
open Go.RowKit

theorem eqKind_same (q s : Int) (w : World) :
    Calls Tryz.prog 40 #[.agg #[.int .i64 q, .int .i64 s], .agg #[.int .i64 q, .int .i64 s]] w fun e w' => e = .returned (.bool true) ∧ Below w.heap.size w w' := by
  go_enter Tryz.func40, Tryz.ntmps40
  go_wp2
  go_ret
  exact ⟨rfl, ((Below.refl _ _).alloc (Nat.le_refl _) _).alloc (by simp) _⟩

theorem eqStep_same (x y lo hi fr b : Int) (ho : Bool) (w : World) :
    Calls Tryz.prog 65 #[.agg #[.int .i64 x, .int .i64 y, .int .i64 lo, .int .i64 hi, .int .i64 fr, .int .i64 b, .bool ho], .agg #[.int .i64 x, .int .i64 y, .int .i64 lo, .int .i64 hi, .int .i64 fr, .int .i64 b, .bool ho]] w
      fun e w' => e = .returned (.bool true) ∧ Below w.heap.size w w' := by
  go_enter Tryz.func65, Tryz.ntmps65
  go_wp2
  go_ret
  exact ⟨rfl, ((Below.refl _ _).alloc (Nat.le_refl _) _).alloc (by simp) _⟩

set_option maxHeartbeats 1000000 in
theorem eqSteps_same (a a' : Option Addr) (b o cap b' o' cap' : Nat) (l : List Stp) (w : World) (hl : l.length ≤ 1048576) (hs : StepsAt w a b o l) (hs' : StepsAt w a' b' o' l) :
    Calls Tryz.prog 41 #[.slice a l.length cap, .slice a' l.length cap'] w fun e w' => e = .returned (.bool true) ∧ Below w.heap.size w w' := by
  go_enter Tryz.func41, Tryz.ntmps41
  go_wp2
  go_loopw [5] (fun v wr => ∃ k : Nat, k ≤ l.length ∧ v = .int .i64 k ∧ Below w.heap.size w wr) (fun v _ => l.length - (intOf v).toNat)
  case atStart => exact ⟨0, Nat.zero_le _, rfl, Below.refl _ _⟩
  case round =>
    obtain ⟨k, hk, rfl, hb⟩ := hrel
    by_cases hlt : k < l.length
    · obtain ⟨s, hsk⟩ : ∃ s, l[k]? = some s := ⟨l[k], List.getElem?_eq_getElem hlt⟩
      have hne : l ≠ [] := by intro e; subst e; simp at hlt
      obtain rfl := hs.here hne
      obtain rfl := hs'.here hne
      have hbw := hs.lt hne
      have hbw' := hs'.lt hne
      obtain ⟨c0, c1, c2, c3, c4, c5, c6⟩ := (hs.below hb (fun _ => hbw)).seven hsk
      obtain ⟨d0, d1, d2, d3, d4, d5, d6⟩ := (hs'.below hb (fun _ => hbw')).seven hsk
      have k0 : (0 : Int) ≤ (k : Int) := by omega
      have k1 : (k : Int) < (l.length : Int) := by omega
      have hbx : b < wr.heap.size := Nat.lt_of_lt_of_le hbw hb.size
      have hbx' : b' < wr.heap.size := Nat.lt_of_lt_of_le hbw' hb.size
      have HS : Hid (l[k]? = some s) := hsk
      clear hsk
      go_wp2
      go_region_held3 (fun w' => w'.cell? ⟨b, o + k * 7, none⟩ = some (.int .i64 s.x) ∧ w'.cell? ⟨b, o + k * 7 + 1, none⟩ = some (.int .i64 s.y) ∧ w'.cell? ⟨b, o + k * 7 + 2, none⟩ = some (.int .i64 s.lo) ∧ w'.cell? ⟨b, o + k * 7 + 3, none⟩ = some (.int .i64 s.hi) ∧ w'.cell? ⟨b, o + k * 7 + 4, none⟩ = some (.int .i64 s.fr) ∧ w'.cell? ⟨b, o + k * 7 + 5, none⟩ = some (.int .i64 s.by_) ∧ w'.cell? ⟨b, o + k * 7 + 6, none⟩ = some (.bool s.ho) ∧
        w'.cell? ⟨b', o' + k * 7, none⟩ = some (.int .i64 s.x) ∧ w'.cell? ⟨b', o' + k * 7 + 1, none⟩ = some (.int .i64 s.y) ∧ w'.cell? ⟨b', o' + k * 7 + 2, none⟩ = some (.int .i64 s.lo) ∧ w'.cell? ⟨b', o' + k * 7 + 3, none⟩ = some (.int .i64 s.hi) ∧ w'.cell? ⟨b', o' + k * 7 + 4, none⟩ = some (.int .i64 s.fr) ∧ w'.cell? ⟨b', o' + k * 7 + 5, none⟩ = some (.int .i64 s.by_) ∧ w'.cell? ⟨b', o' + k * 7 + 6, none⟩ = some (.bool s.ho))
        (simp [go_sem, *])
        (first | (go_at_call 65; refine (eqStep_same _ _ _ _ _ _ _ _).mono ?_; rintro e w1 ⟨rfl, hb1⟩; have hc1 : ∀ j, w1.cell? ⟨b, j, none⟩ = wr.cell? ⟨b, j, none⟩ := fun j => hb1.cell (p := ⟨b, j, none⟩) hbx; have hc2 : ∀ j, w1.cell? ⟨b', j, none⟩ = wr.cell? ⟨b', j, none⟩ := fun j => hb1.cell (p := ⟨b', j, none⟩) hbx'))
      go_wp2
      go_roundw
      case rel => exact ⟨k + 1, by omega, by go_num, hb.drew.trans (hb1.mono hb.size)⟩
      case measure => simp [intOf]; omega
    · go_wp2
      go_ret
      exact ⟨rfl, hb⟩

set_option maxHeartbeats 1000000 in
theorem eqPath_same (q s fr b : Int) (a a' : Option Addr) (b0 o cap b0' o' cap' : Nat) (l : List Stp) (w : World) (hl : l.length ≤ 1048576) (hs : StepsAt w a b0 o l) (hs' : StepsAt w a' b0' o' l) :
    Calls Tryz.prog 15 #[.agg #[.int .i64 q, .int .i64 s, .slice a l.length cap, .int .i64 fr, .int .i64 b], .agg #[.int .i64 q, .int .i64 s, .slice a' l.length cap', .int .i64 fr, .int .i64 b]] w
      fun e w' => e = .returned (.bool true) ∧ Below w.heap.size w w' := by
  go_enter Tryz.func15, Tryz.ntmps15
  go_wp2_with fail
  refine (eqKind_same _ _ _).mono ?_
  rintro e w1 ⟨rfl, hb1⟩
  obtain ⟨hc1, _⟩ := old_cells hb1
  have hz1 := hb1.size
  simp at hz1
  have hb01 : Below w.heap.size w w1 := (((Below.refl w.heap.size w).alloc (Nat.le_refl _) _).alloc (by simp) _).trans (hb1.mono (by simp; omega))
  have hC1 : ∀ b o, b < w.heap.size + 2 → w1.cell? ⟨b, o, none⟩ = _ := fun b o h => hc1 b o (by simp; omega)
  have a2 : w1.cell? ⟨w.heap.size, 2, none⟩ = some (.slice a l.length cap) := by rw [hC1 _ _ (by omega)]; simp [go_sem]
  have a3 : w1.cell? ⟨w.heap.size, 3, none⟩ = some (.int .i64 fr) := by rw [hC1 _ _ (by omega)]; simp [go_sem]
  have a4 : w1.cell? ⟨w.heap.size, 4, none⟩ = some (.int .i64 b) := by rw [hC1 _ _ (by omega)]; simp [go_sem]
  have d2 : w1.cell? ⟨w.heap.size + 1, 2, none⟩ = some (.slice a' l.length cap') := by rw [hC1 _ _ (by omega)]; simp [go_sem]
  have d3 : w1.cell? ⟨w.heap.size + 1, 3, none⟩ = some (.int .i64 fr) := by rw [hC1 _ _ (by omega)]; simp [go_sem]
  have d4 : w1.cell? ⟨w.heap.size + 1, 4, none⟩ = some (.int .i64 b) := by rw [hC1 _ _ (by omega)]; simp [go_sem]
  clear hc1 hC1
  go_wp2_with fail
  refine (eqSteps_same _ _ b0 o _ b0' o' _ _ _ hl (hs.below hb01 hs.lt) (hs'.below hb01 hs'.lt)).mono ?_
  rintro e w2 ⟨rfl, hb2⟩
  have z : w.heap.size + 1 < w1.heap.size := by omega
  have e3 : w2.cell? ⟨w.heap.size, 3, none⟩ = some (.int .i64 fr) := (hb2.cell (p := ⟨w.heap.size, 3, none⟩) (by show w.heap.size < _; omega)).trans a3
  have e4 : w2.cell? ⟨w.heap.size, 4, none⟩ = some (.int .i64 b) := (hb2.cell (p := ⟨w.heap.size, 4, none⟩) (by show w.heap.size < _; omega)).trans a4
  have g3 : w2.cell? ⟨w.heap.size + 1, 3, none⟩ = some (.int .i64 fr) := (hb2.cell (p := ⟨w.heap.size + 1, 3, none⟩) z).trans d3
  have g4 : w2.cell? ⟨w.heap.size + 1, 4, none⟩ = some (.int .i64 b) := (hb2.cell (p := ⟨w.heap.size + 1, 4, none⟩) z).trans d4
  go_wp2
  go_ret
  exact ⟨rfl, hb01.trans (hb2.mono (by omega))⟩
end Go.Proofs.YtfmdejilhbankaaGreat

namespace Go.Proofs.YtfmdejilhbankaaGreat
open Go.RowKit

/-- What is left of a measure behind a name and a list. -/
def leftN (left : Int) (z n : Nat) : Int := if left - z < 0 then -1 else leftB (left - z) n
theorem leftN_left (left : Int) (z n : Nat) (h1 : left ≤ 1048576) : -1 ≤ leftN left z n ∧ leftN left z n ≤ 1048576 := by
  unfold leftN leftB; split
  · omega
  · split <;> omega
theorem leftN_small {left : Int} {z n : Nat} (h1 : left ≤ 1048576) (h : 0 ≤ leftN left z n) : n ≤ 1048576 := by
  unfold leftN leftB at h; split at h
  · omega
  · split at h <;> omega
end Go.Proofs.YtfmdejilhbankaaGreat

namespace Go.Proofs.YtfmdejilhbankaaGreat
open Go.RowKit

/-- Somebody who holds something. -/
structure Hd where
  nm : ByteArray
  n : Int
  p : Pt
  sn : Int
  x : Pt
abbrev Hd.cl (t : Hd) : List Value := [.string t.nm, .int .i64 t.n, .int .i64 t.p.q, .int .i64 t.p.s, .slice t.p.a t.p.l.length t.p.cap, .int .i64 t.p.fr, .int .i64 t.p.b, .int .i64 t.sn, .int .i64 t.x.q, .int .i64 t.x.s, .slice t.x.a t.x.l.length t.x.cap, .int .i64 t.x.fr, .int .i64 t.x.b]
abbrev Hd.val (t : Hd) : Value := .agg #[.string t.nm, .int .i64 t.n, .int .i64 t.p.q, .int .i64 t.p.s, .slice t.p.a t.p.l.length t.p.cap, .int .i64 t.p.fr, .int .i64 t.p.b, .int .i64 t.sn, .int .i64 t.x.q, .int .i64 t.x.s, .slice t.x.a t.x.l.length t.x.cap, .int .i64 t.x.fr, .int .i64 t.x.b]
abbrev Hd.put (t : Hd) (g h : Nat) : Hd := ⟨t.nm, t.n, t.p.put g, t.sn, t.x.put h⟩
/-- Their lists lie there. -/
structure HdAt (w : World) (t : Hd) : Prop where
  p : PtAt w t.p
  x : PtAt w t.x
theorem HdAt.below {w w' : World} {t : Hd} (h : HdAt w t) (hb : Below w.heap.size w w') : HdAt w' t := ⟨h.p.below hb h.p.lt, h.x.below hb h.x.lt⟩
/-- Their box. -/
structure HdIn (W : World) (B : Nat) (t : Hd) : Prop where
  lt : B < W.heap.size
  cs : W.rangeAt B 0 t.cl
theorem HdIn.keep {W W' : World} {B N : Nat} {t : Hd} (h : HdIn W B t) (hb : Below N W W') (hN : B < N) : HdIn W' B t := ⟨Nat.lt_of_lt_of_le h.lt hb.size, range_below h.cs hb hN⟩
theorem HdIn.new (w : World) (t : Hd) (T : TypeId) : HdIn (w.alloc (.cells #[.string t.nm, .int .i64 t.n, .int .i64 t.p.q, .int .i64 t.p.s, .slice t.p.a t.p.l.length t.p.cap, .int .i64 t.p.fr, .int .i64 t.p.b, .int .i64 t.sn, .int .i64 t.x.q, .int .i64 t.x.s, .slice t.x.a t.x.l.length t.x.cap, .int .i64 t.x.fr, .int .i64 t.x.b] T)) w.heap.size t where
  lt := by simp
  cs := fun j v hv => by
    match j, hv with
    | 0, hv | 1, hv | 2, hv | 3, hv | 4, hv | 5, hv | 6, hv | 7, hv | 8, hv | 9, hv | 10, hv | 11, hv | 12, hv => simp at hv; subst hv; simp [go_sem]
theorem cl_cells {W : World} {B o : Nat} {t : Hd} (h : W.rangeAt B o t.cl) :
    W.cell? ⟨B, o, none⟩ = some (.string t.nm) ∧ W.cell? ⟨B, o + 1, none⟩ = some (.int .i64 t.n) ∧ W.cell? ⟨B, o + 2, none⟩ = some (.int .i64 t.p.q) ∧ W.cell? ⟨B, o + 3, none⟩ = some (.int .i64 t.p.s) ∧ W.cell? ⟨B, o + 4, none⟩ = some (.slice t.p.a t.p.l.length t.p.cap) ∧ W.cell? ⟨B, o + 5, none⟩ = some (.int .i64 t.p.fr) ∧ W.cell? ⟨B, o + 6, none⟩ = some (.int .i64 t.p.b) ∧ W.cell? ⟨B, o + 7, none⟩ = some (.int .i64 t.sn) ∧
    W.cell? ⟨B, o + 8, none⟩ = some (.int .i64 t.x.q) ∧ W.cell? ⟨B, o + 9, none⟩ = some (.int .i64 t.x.s) ∧ W.cell? ⟨B, o + 10, none⟩ = some (.slice t.x.a t.x.l.length t.x.cap) ∧ W.cell? ⟨B, o + 11, none⟩ = some (.int .i64 t.x.fr) ∧ W.cell? ⟨B, o + 12, none⟩ = some (.int .i64 t.x.b) :=
  ⟨h 0 _ rfl, h 1 _ rfl, h 2 _ rfl, h 3 _ rfl, h 4 _ rfl, h 5 _ rfl, h 6 _ rfl, h 7 _ rfl, h 8 _ rfl, h 9 _ rfl, h 10 _ rfl, h 11 _ rfl, h 12 _ rfl⟩

/-- Those who hold something lie in a row. -/
structure HdsAt (w : World) (a : Option Addr) (b o : Nat) (ts : List Hd) : Prop where
  here : ts ≠ [] → a = some ⟨b, o, none⟩
  lt : ts ≠ [] → b < w.heap.size
  cell : ∀ (i : Nat) (t : Hd), ts[i]? = some t → w.rangeAt b (o + i * 13) t.cl
  each : ∀ t ∈ ts, HdAt w t
theorem HdsAt.below {w w' : World} {a : Option Addr} {b o : Nat} {ts : List Hd} (h : HdsAt w a b o ts) (hb : Below w.heap.size w w') : HdsAt w' a b o ts where
  here := h.here
  lt hl := Nat.lt_of_lt_of_le (h.lt hl) hb.size
  cell i t hi := range_below (h.cell i t hi) hb (h.lt (by intro e; subst e; simp at hi))
  each t ht := (h.each t ht).below hb

/-- A path and somebody who holds something, without where they lie. -/
def Pt.key (p : Pt) : Int × Int × Int × Int × List Stp := (p.q, p.s, p.fr, p.b, p.l)
def Hd.key (t : Hd) : ByteArray × Int × (Int × Int × Int × Int × List Stp) × Int × (Int × Int × Int × Int × List Stp) := (t.nm, t.n, t.p.key, t.sn, t.x.key)
/-- us are copies of ts. -/
structure CopiedH (ts us : List Hd) : Prop where
  len : us.length = ts.length
  at_ : ∀ (i : Nat) (t : Hd), ts[i]? = some t → ∃ g h, us[i]? = some (t.put g h)
theorem CopiedH.keys {ts us : List Hd} (h : CopiedH ts us) : us.map Hd.key = ts.map Hd.key := by
  apply List.ext_getElem?
  intro i
  rw [List.getElem?_map, List.getElem?_map]
  cases ht : ts[i]? with
  | none =>
    have : us[i]? = none := by rw [List.getElem?_eq_none_iff] at ht ⊢; have := h.len; omega
    rw [this]
  | some t =>
    obtain ⟨g, k, hg⟩ := h.at_ i t ht
    rw [hg]; rfl
theorem CopiedH.small {ts us : List Hd} (h : CopiedH ts us) (hs : ∀ t ∈ ts, t.p.l.length ≤ 1048576 ∧ t.x.l.length ≤ 1048576) : ∀ u ∈ us, u.p.l.length ≤ 1048576 ∧ u.x.l.length ≤ 1048576 := fun u hu => by
  obtain ⟨i, hi⟩ := List.mem_iff_getElem?.1 hu
  obtain ⟨t, ht⟩ : ∃ t, ts[i]? = some t := ⟨ts[i]'(by have := (List.getElem?_eq_some_iff.1 hi).1; have := h.len; omega), List.getElem?_eq_getElem _⟩
  obtain ⟨g, k, hg⟩ := h.at_ i t ht
  rw [hi] at hg
  cases hg
  exact hs t (List.mem_of_getElem? ht)

/-- What is left of a measure behind somebody who holds something, and behind a row of them. -/
def leftH (left : Int) (t : Hd) : Int := if leftN left t.nm.size t.p.l.length < 0 then -1 else leftB (leftN left t.nm.size t.p.l.length) t.x.l.length
theorem leftH_left (left : Int) (t : Hd) (h1 : left ≤ 1048576) : -1 ≤ leftH left t ∧ leftH left t ≤ 1048576 := by
  have hx := leftN_left left t.nm.size t.p.l.length h1
  unfold leftH
  split
  · omega
  · unfold leftB
    split <;> omega
theorem leftH_small {left : Int} {t : Hd} (h1 : left ≤ 1048576) (h : 0 ≤ leftH left t) : t.p.l.length ≤ 1048576 ∧ t.x.l.length ≤ 1048576 := by
  have hx := leftN_left left t.nm.size t.p.l.length h1
  unfold leftH at h
  split at h
  · omega
  · rename_i hn
    refine ⟨leftN_small (z := t.nm.size) h1 (by omega), ?_⟩
    unfold leftB at h
    split at h <;> omega
def leftHs (left : Int) (ts : List Hd) : Int := ts.foldl leftH (leftB left ts.length)
theorem leftH_neg {left : Int} {t : Hd} (h : left < 0) : leftH left t = -1 := by unfold leftH leftN; rw [if_pos (by omega : left - (t.nm.size : Int) < 0)]; simp
theorem foldH_neg : ∀ (ts : List Hd) (left : Int), left = -1 → ts.foldl leftH left = -1
  | [], _, h => h
  | t :: ts, left, h => by rw [List.foldl_cons]; exact foldH_neg ts _ (leftH_neg (by omega))
theorem foldH_take (ts : List Hd) (left : Int) {k : Nat} {t : Hd} (h : ts[k]? = some t) : (ts.take (k + 1)).foldl leftH left = leftH ((ts.take k).foldl leftH left) t := by
  rw [List.take_add_one, h]; simp [List.foldl_append]
theorem foldH_split (ts : List Hd) (left : Int) (k : Nat) : ts.foldl leftH left = (ts.drop k).foldl leftH ((ts.take k).foldl leftH left) := by
  rw [← List.foldl_append, List.take_append_drop]
theorem foldH_range (ts : List Hd) (left : Int) (h0 : -1 ≤ left) (h1 : left ≤ 1048576) : -1 ≤ ts.foldl leftH left ∧ ts.foldl leftH left ≤ 1048576 := by
  induction ts generalizing left with
  | nil => exact ⟨h0, h1⟩
  | cons t ts ih => rw [List.foldl_cons]; have := leftH_left left t h1; exact ih _ this.1 this.2
theorem foldH_small : ∀ (ts : List Hd) (left : Int), -1 ≤ left → left ≤ 1048576 → 0 ≤ ts.foldl leftH left → ∀ t ∈ ts, t.p.l.length ≤ 1048576 ∧ t.x.l.length ≤ 1048576
  | [], _, _, _, _, _, ht => by simp at ht
  | s :: ts, left, h0, h1, h, t, ht => by
    rw [List.foldl_cons] at h
    have hr := leftH_left left s h1
    by_cases hn : leftH left s < 0
    · rw [foldH_neg ts _ (by omega)] at h; omega
    rcases List.mem_cons.1 ht with rfl | ht
    · exact leftH_small h1 (by omega)
    · exact foldH_small ts _ hr.1 hr.2 h t ht
end Go.Proofs.YtfmdejilhbankaaGreat

namespace Go.Proofs.YtfmdejilhbankaaGreat
open Go.RowKit

abbrev nmA : ByteArray := ⟨#[97]⟩
abbrev nmAny : ByteArray := ⟨#[97, 110, 121]⟩
theorem nameA : nameB nmA = true := by decide +kernel
theorem nameAny : nameB nmAny = true := by decide +kernel
theorem cutBx_late {t : Tb} {n : Int} (h : 10000 < n) : cutBx t n = [] := by
  unfold cutBx
  split
  · rename_i ht
    unfold tubeB at ht
    simp only [Bool.and_eq_true, List.all_eq_true] at ht
    unfold cutL
    rw [List.map_eq_nil_iff, List.filter_eq_nil_iff]
    intro s hs
    have := (boxB_iff s).1 (ht.2 s hs)
    simp
    omega
  · rfl
theorem cutBx_name {nm nm' : ByteArray} (h : nameB nm = true) (h' : nameB nm' = true) (q s fr b n : Int) (l : List Stp) : cutBx (pathTb nm q s fr b l) n = cutBx (pathTb nm' q s fr b l) n := by
  unfold cutBx tubeB
  simp only [h, h']
/-- A flight along this path may be in the air behind a tick. -/
def liveK (k : Int × Int × Int × Int × List Stp) (now : Int) : Bool := decide (0 < (cutBx (pathTb nmAny k.1 k.2.1 k.2.2.1 k.2.2.2.1 k.2.2.2.2) ((if now < 10000 then now else 10000) + 1)).length)
def goesK (now : Int) (k : ByteArray × Int × (Int × Int × Int × Int × List Stp) × Int × (Int × Int × Int × Int × List Stp)) : Bool := liveK k.2.2.1 now || liveK k.2.2.2.2 now
def goesH (now : Int) (t : Hd) : Bool := goesK now t.key
theorem liveK_over {p : Pt} {now : Int} (h : 10000 ≤ now) : liveK p.key now = false := by
  unfold liveK
  rw [cutBx_late (by rw [if_neg (by omega)]; decide)]
  rfl
theorem liveK_under {p : Pt} {now : Int} (h : now < 10000) : liveK p.key now = decide (0 < (cutBx (pathTb nmA p.q p.s p.fr p.b p.l) (now + 1)).length) := by
  unfold liveK
  rw [cutBx_name nameAny nameA, if_pos h]
  rfl
theorem goes_filter {us ts : List Hd} {now : Int} (h : us.map Hd.key = ts.map Hd.key) : (us.filter (goesH now)).map Hd.key = (ts.filter (goesH now)).map Hd.key := by
  have e : ∀ l : List Hd, (l.filter (goesH now)).map Hd.key = (l.map Hd.key).filter (goesK now) := fun l => by
    rw [List.filter_map]
    rfl
  rw [e, e, h]
theorem fld_boxes (n v : Value) (W : World) : (Instr.field 96 (.agg #[n, v]) 1).run Tryz.prog W = .ok v W := by
  simp [Instr.field, go_sem, asAgg]
end Go.Proofs.YtfmdejilhbankaaGreat
