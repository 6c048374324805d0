/- The program's ProbeCut, by its contract. -/
import Derived.Test.YtdfmcedookogpaaPbCutS
import Derived.Test.YtdfmcedookogpaaPbField
import Derived.Deep.RegionHeld3
namespace Go.Proofs.Ytdfmcedookogpaa
open Go.RowKit

set_option maxHeartbeats 4000000 in
set_option maxRecDepth 20000 in
theorem from_any (a : Option Addr) (b o cap : Nat) (l : List Bx) (n : Int) (w : World) (hl : l.length ≤ 1048576) (hs : BoxesAt w a b o l) :
    Calls Try.prog 58 #[.slice a l.length cap, .int .i64 n] w
      fun e w' => ∃ v, e = .returned v ∧ w'.ownsRow w.heap.size 25 6 v (cutL n l).length (rowC (cutL n l)) ∧ Below w.heap.size w w' := by
  obtain ⟨i0, hi, hz0, hz1, hz2⟩ := info_parts pbox_info
  go_enter Try.func58, Try.ntmps58
  go_wp2
  go_loopw [5, 10] (fun v x wr => ∃ k : Nat, k ≤ l.length ∧ x = .int .i64 k ∧ Below w.heap.size w wr ∧ wr.ownsRow w.heap.size 25 6 v (cutL n (l.take k)).length (rowC (cutL n (l.take k)))) (fun _ x _ => l.length - (intOf x).toNat)
  case atStart => exact ⟨0, Nat.zero_le _, rfl, Below.refl _ _, World.ownsRow_nil _ _ _ _⟩
  case round =>
    obtain ⟨k, hk, rfl, hb, ho⟩ := hrel
    by_cases hlt : k < l.length
    · obtain ⟨s, hsk⟩ : ∃ s, l[k]? = some s := ⟨l[k], List.getElem?_eq_getElem hlt⟩
      have hne : l ≠ [] := by intro e; subst e; simp at hlt
      obtain rfl := hs.here hne
      have hbw := hs.lt hne
      obtain ⟨c0, c1, c2, c3, c4, c5⟩ := (hs.below hb (fun _ => hbw)).six hsk
      have k0 : (0 : Int) ≤ (k : Int) := by omega
      have k1 : (k : Int) < (l.length : Int) := by omega
      have HS : Hid (l[k]? = some s) := hsk
      have hlen := cutL_len_take n l k
      clear hsk
      by_cases h2 : n ≤ s.out
      · by_cases h3 : s.in_ < n
        · have HT : Hid (cutL n (l.take (k + 1)) = cutL n (l.take k) ++ [{ s with in_ := n }]) := by show _ = _; rw [cutL_take HS.out, if_pos (by omega), show max s.in_ n = n by omega]
          have O1 := owns_below ho (bel2 (.cells #[.int .i64 s.x, .int .i64 s.y, .int .i64 s.lo, .int .i64 s.hi, .int .i64 n, .int .i64 s.out] 25) (.cells #[.int .i64 s.x, .int .i64 s.y, .int .i64 s.lo, .int .i64 s.hi, .int .i64 n, .int .i64 s.out] 25))
          have B1 := (hb.alloc hb.size (.cells #[.int .i64 s.x, .int .i64 s.y, .int .i64 s.lo, .int .i64 s.hi, .int .i64 n, .int .i64 s.out] 25)).alloc (by simp; have := hb.size; omega) (.cells #[.int .i64 s.x, .int .i64 s.y, .int .i64 s.lo, .int .i64 s.hi, .int .i64 n, .int .i64 s.out] 25)
          go_wp2_with (at_builtin; refine wpList_append_own _ rfl (.tmp 23) (.tmp 25) 36 rfl w.heap.size 25 i0 (.agg #[.int .i64 0, .int .i64 0, .int .i64 0, .int .i64 0, .int .i64 0, .int .i64 0]) 6 48 Try.underlying36 hi hz0 hz1 hz2 rfl (by decide) u5 _ _ rfl O1 ⟨wr.heap.size + 1, 0, none⟩ 1 1 (Bx.cells { s with in_ := n }) rfl rfl (six_new2P wr { s with in_ := n } _ _) (by simp [Value.oneCell']) (by unfold maxLen; omega) (by omega) (by simp; have := hb.size; omega) ?_; intro v7 w7 hown7 hgrow7 hnil7)
          go_roundw
          case rel => exact ⟨k + 1, by omega, by go_num, B1.grown hgrow7 (by simp; have := hb.size; omega) (owns_base O1), by rw [HT.out, rowC_snoc, List.length_append]; exact hown7⟩
          case measure => simp [intOf]; omega
        · have HT : Hid (cutL n (l.take (k + 1)) = cutL n (l.take k) ++ [s]) := by show _ = _; rw [cutL_take HS.out, if_pos (by omega), show max s.in_ n = s.in_ by omega]
          have O1 := owns_below ho (bel2 (.cells #[.int .i64 s.x, .int .i64 s.y, .int .i64 s.lo, .int .i64 s.hi, .int .i64 s.in_, .int .i64 s.out] 25) (.cells #[.int .i64 s.x, .int .i64 s.y, .int .i64 s.lo, .int .i64 s.hi, .int .i64 s.in_, .int .i64 s.out] 25))
          have B1 := (hb.alloc hb.size (.cells #[.int .i64 s.x, .int .i64 s.y, .int .i64 s.lo, .int .i64 s.hi, .int .i64 s.in_, .int .i64 s.out] 25)).alloc (by simp; have := hb.size; omega) (.cells #[.int .i64 s.x, .int .i64 s.y, .int .i64 s.lo, .int .i64 s.hi, .int .i64 s.in_, .int .i64 s.out] 25)
          go_wp2_with (at_builtin; refine wpList_append_own _ rfl (.tmp 23) (.tmp 25) 36 rfl w.heap.size 25 i0 (.agg #[.int .i64 0, .int .i64 0, .int .i64 0, .int .i64 0, .int .i64 0, .int .i64 0]) 6 48 Try.underlying36 hi hz0 hz1 hz2 rfl (by decide) u5 _ _ rfl O1 ⟨wr.heap.size + 1, 0, none⟩ 1 1 (Bx.cells s) rfl rfl (six_new2P wr s _ _) (by simp [Value.oneCell']) (by unfold maxLen; omega) (by omega) (by simp; have := hb.size; omega) ?_; intro v7 w7 hown7 hgrow7 hnil7)
          go_roundw
          case rel => exact ⟨k + 1, by omega, by go_num, B1.grown hgrow7 (by simp; have := hb.size; omega) (owns_base O1), by rw [HT.out, rowC_snoc, List.length_append]; exact hown7⟩
          case measure => simp [intOf]; omega
      · have HT : Hid (cutL n (l.take (k + 1)) = cutL n (l.take k)) := by show _ = _; rw [cutL_take HS.out, if_neg h2]
        go_wp2
        go_roundw
        case rel => exact ⟨k + 1, by omega, by go_num, hb.alloc hb.size _, by rw [HT.out]; exact owns_below ho (bel1 _)⟩
        case measure => simp [intOf]; omega
    · obtain rfl : k = l.length := by omega
      rw [List.take_length] at ho
      go_wp2
      go_ret
      exact ⟨_, rfl, ho, hb⟩

/-- The blocks of the call: the tube, the answer. -/
structure ResW (w wr : World) (t : Tb) : Prop where
  old : Below w.heap.size w wr
  tube : wr.heap[w.heap.size]? = some (.cells #[.string t.nm, .slice t.a t.l.length t.cap] 38 (0, 0))
  res : wr.heap[w.heap.size + 1]? = some (.cells #[.string ⟨#[]⟩, .slice none 0 0] 38 (0, 0))
theorem ResW.keep {w wr w2 : World} {t : Tb} (h : ResW w wr t) (hb : Below wr.heap.size wr w2) : ResW w w2 t :=
  ⟨h.old.trans (hb.mono h.old.size), (hb.block _ (lt_of_block h.tube)).trans h.tube, (hb.block _ (lt_of_block h.res)).trans h.res⟩
theorem ResW.new (w w1 : World) (t : Tb) (hb : Below ((w.alloc (.cells #[.string t.nm, .slice t.a t.l.length t.cap] 38)).alloc (.cells #[.string ⟨#[]⟩, .slice none 0 0] 38)).heap.size ((w.alloc (.cells #[.string t.nm, .slice t.a t.l.length t.cap] 38)).alloc (.cells #[.string ⟨#[]⟩, .slice none 0 0] 38)) w1) : ResW w w1 t where
  old := (bel2 _ _).trans (hb.mono (by simp; omega))
  tube := (hb.block _ (by simp; omega)).trans ((Below.heap_alloc _ _ _ (by simp)).trans (heap_alloc_new w _))
  res := (hb.block _ (by simp)).trans (by have := heap_alloc_new (w.alloc (.cells #[.string t.nm, .slice t.a t.l.length t.cap] 38)) (.cells #[.string ⟨#[]⟩, .slice none 0 0] 38); rwa [World.size_alloc] at this)

set_option maxHeartbeats 4000000 in
set_option maxRecDepth 20000 in
theorem cutI_any (nm : ByteArray) (a : Option Addr) (b o cap : Nat) (l : List Bx) (n : Int) (w : World) (hl : l.length ≤ 1048576) (hs : BoxesAt w a b o l) :
    Calls Try.prog 25 #[.agg #[.string nm, .slice a l.length cap], .int .i64 n] w
      fun e w' => ∃ v, e = .returned (.agg #[.string (cutNm ⟨nm, a, b, o, cap, l⟩), v]) ∧ w'.ownsRow w.heap.size 25 6 v (cutBx ⟨nm, a, b, o, cap, l⟩ n).length (rowC (cutBx ⟨nm, a, b, o, cap, l⟩ n)) ∧ Below w.heap.size w w' := by
  have A0 : TubeAt w ⟨nm, a, b, o, cap, l⟩ := ⟨hs⟩
  cases h1 : tubeB ⟨nm, a, b, o, cap, l⟩ with
  | false =>
    have G : Hid (cutNm ⟨nm, a, b, o, cap, l⟩ = ⟨#[]⟩ ∧ cutBx ⟨nm, a, b, o, cap, l⟩ n = []) := by show _ ∧ _; unfold cutNm cutBx; rw [h1]; simp
    have H1 : Hid (tubeB ⟨nm, a, b, o, cap, l⟩ = false) := h1
    clear h1
    go_enter Try.func25, Try.ntmps25
    go_wp2_with fail
    refine (tubeOk_val ⟨nm, a, b, o, cap, l⟩ false _ hl (A0.below (bel2 _ _)) H1.out).mono ?_
    rintro e w1 ⟨rfl, hb1⟩
    have C := ResW.new w w1 ⟨nm, a, b, o, cap, l⟩ hb1
    obtain ⟨r0, r1, rf⟩ := blk2 C.res
    clear hb1
    go_wp2
    refine bodyPost_ret (v := .agg #[.string ⟨#[]⟩, .slice none 0 0]) (by simp [results, Try.results25, go_sem, *]) rfl ⟨.slice none 0 0, by rw [G.out.1], by rw [G.out.2]; exact World.ownsRow_nil _ _ _ _, ?_⟩
    iterate 2 (refine Below.setCell ?_ (by simp) _)
    exact C.old
  | true =>
    have G : Hid (cutNm ⟨nm, a, b, o, cap, l⟩ = nm ∧ cutBx ⟨nm, a, b, o, cap, l⟩ n = cutL n l) := by show _ ∧ _; unfold cutNm cutBx; rw [h1]; simp
    have H1 : Hid (tubeB ⟨nm, a, b, o, cap, l⟩ = true) := h1
    clear h1
    go_enter Try.func25, Try.ntmps25
    go_wp2_with fail
    refine (tubeOk_val ⟨nm, a, b, o, cap, l⟩ true _ hl (A0.below (bel2 _ _)) H1.out).mono ?_
    rintro e w1 ⟨rfl, hb1⟩
    have C1 := ResW.new w w1 ⟨nm, a, b, o, cap, l⟩ hb1
    have C1d : ResW w w1.drew ⟨nm, a, b, o, cap, l⟩ := C1.keep ((Below.refl _ _).drew)
    obtain ⟨t0, t1, tf⟩ := blk2 C1.tube
    have hfd := fun wx => lane_field nm a l.length cap wx
    clear hb1 A0
    go_wp2
    go_region_held3 (fun w' => w'.cell? ⟨w.heap.size, 0, none⟩ = some (.string nm) ∧ w'.cell? ⟨w.heap.size, 1, none⟩ = some (.slice a l.length cap))
      (simp [go_sem, *])
      (first
        | (go_at_call 49; refine (lane_at nm a cap l _).mono ?_; rintro e w2 ⟨rfl, hb2⟩; have C2 := C1d.keep hb2; obtain ⟨s0, s1, sf⟩ := blk2 C2.tube)
        | (go_at_call 58; refine (from_any _ b o _ l _ _ hl (hs.below C2.old hs.lt)).mono ?_; rintro e w3 ⟨v3, rfl, ho3, hb3⟩; have C3 := C2.keep hb3; obtain ⟨q0, q1, qf⟩ := blk2 C3.tube; obtain ⟨r0, r1, rf⟩ := blk2 C3.res; obtain ⟨va, vc, rfl⟩ := owns_slice ho3; have D3 := C2.old.size))
    go_wp2
    refine bodyPost_ret (v := .agg #[.string nm, .slice va (cutL n l).length vc]) (by simp [results, Try.results25, go_sem, *]) rfl ⟨_, by rw [G.out.1], ?_, ?_⟩
    · rw [G.out.2]
      refine owns_lower (base := w2.heap.size) ?_ D3
      have z2 := lt_of_block C2.res
      iterate 2 (refine owns_set ?_ (fun k e => by have := owns_base ho3 k e; omega) _ _)
      exact ho3
    · iterate 2 (refine Below.setCell ?_ (by simp) _)
      exact C3.old
end Go.Proofs.Ytdfmcedookogpaa
