/- Joined texts: P3Law, Meth, SpanWin, SeqAll, WalkData, WalkSaid, SpanImpl, AnyA. -/
import Derived.BigQuiet
import Derived.RangeFuncNested
import Derived.RangeFuncBound
import Derived.RangeFuncCalls
import Derived.RangeFuncLeaves
import Derived.Shelf.Abstract
import Derived.Shelf.RegionOpen
import Derived.WalkKit
import Derived.OwnWalkIn
import Derived.TacticsInMore
import Derived.LoopNIn
import Derived.LoopIn
import Derived.Stop.RegionWithIn
import Derived.Deep.RegionHeld3
import Derived.Test.YtfjlbgegjjdflaaRows
import Derived.Test.YtfjlbgegjjdflaaJ07
import Derived.Test.YtfjlbgegjjdflaaJ08
import Derived.Test.YtfjlbgegjjdflaaJ06
import Derived.Test.YtfjlbgegjjdflaaJ01
import Derived.Test.YtfjlbgegjjdflaaJ05
import Derived.Test.YtfjlbgegjjdflaaJ02
namespace Go.Proofs.Ytfjlbgegjjdflaa
open Go.RowKit

/-- What lies while the law looks at a path, its spans and its tube. -/
structure TgD (w wr : World) (X : Nat) (q s fr b : Int) (a : Option Addr) (b0 o cap : Nat) (l : List Stp) (v4 : Value) (F : List (Int × Int)) (c : Option Addr) (cb : Nat) (T : List Bx) : Prop where
  old : Below w.heap.size w wr
  pa : PathAt wr X q s fr b (.slice a l.length cap)
  st : StepsAt wr a b0 o l
  sp : wr.ownsRow 0 38 2 v4 F.length (spanCells F)
  tb : BoxesAt wr c cb 0 T
theorem TgD.below {w wr w' : World} {X : Nat} {q s fr b : Int} {a : Option Addr} {b0 o cap : Nat} {l : List Stp} {v4 : Value} {F : List (Int × Int)} {c : Option Addr} {cb : Nat} {T : List Bx} (h : TgD w wr X q s fr b a b0 o cap l v4 F c cb T) (hb : Below wr.heap.size wr w') : TgD w w' X q s fr b a b0 o cap l v4 F c cb T :=
  ⟨h.old.trans (hb.mono h.old.size), h.pa.keep hb h.pa.lt, h.st.below hb h.st.lt, owns_below h.sp hb, h.tb.below hb h.tb.lt⟩

theorem boxes_owned {w : World} {base : Nat} {e : TypeId} {v : Value} {m : List Bx} (h : w.ownsRow base e 6 v m.length (rowC m)) : ∃ a g cap, v = .slice a m.length cap ∧ BoxesAt w a g 0 m := by
  rcases h.2 with ⟨rfl, h0⟩ | ⟨g, cap, cur, rfl, hg, hh, hn, hc, hs, ht⟩
  · have : m = [] := List.length_eq_zero_iff.1 h0
    subst this
    exact ⟨none, 0, 0, rfl, ⟨fun h => absurd rfl h, fun h => absurd rfl h, fun i s hi => by simp at hi⟩⟩
  · refine ⟨some ⟨g, 0, none⟩, g, cap, rfl, ⟨fun _ => rfl, fun _ => lt_of_block hh, fun i s hi j u hu => ?_⟩⟩
    have h1 := rowC_get m i s hi j u hu
    rw [← ht] at h1
    rw [Nat.zero_add, cell_of_row w g (i * 6 + j) cur _ _ hh]
    rw [List.getElem?_take] at h1
    split at h1
    · simpa using h1
    · cases h1

theorem path_some {q s fr b : Int} {l : List Stp} (h : pathB q s fr b l = true) : 1 ≤ l.length := by
  have := path_len h
  omega
theorem fly_some {q s fr b : Int} {l : List Stp} (h : flyB q s fr b l = true) {k : Nat} (_hk : k ≤ l.length) : (spanAt q s fr b l l.length k).1 ≤ (spanAt q s fr b l l.length k).2 := by
  have hs := (Bool.and_eq_true_iff.1 h).2
  unfold spanB at hs
  have h3 := (Bool.and_eq_true_iff.1 hs).2
  simp only [bwdTo, List.all_eq_true, List.mem_range, someB, decide_eq_true_eq] at h3
  exact h3 _ (by omega)

theorem tube_get {q s fr b : Int} {l : List Stp} (h : flyB q s fr b l = true) {k : Nat} (hk : k < l.length) :
    (tubeL q s fr b l)[k]? = some ⟨(l.getD k .zero).x, (l.getD k .zero).y, (l.getD k .zero).lo, (l.getD k .zero).hi, (spanAt q s fr b l l.length k).1, (spanAt q s fr b l l.length (k + 1)).2 - 1⟩ := by
  have htl : tubeL q s fr b l = tubeTo (flyL q s fr b l) l l.length := by unfold tubeL; rw [h]; rfl
  have e1 := map_at h (show k ≤ l.length by omega)
  have e2 := map_at h (show k + 1 ≤ l.length by omega)
  rw [htl]
  unfold tubeTo
  rw [List.getElem?_map, List.getElem?_range hk]
  simp only [Option.map_some, tubeAt, List.getD_eq_getElem?_getD, e1, e2, Option.getD_some]

/-- wfHeld, at any place of the path and at its end: the path it gives lies in memory of its own. -/
theorem wfHeld_all (q s fr b : Int) (a : Option Addr) (b0 o cap : Nat) (l : List Stp) (k : Nat) (lo hi : Int) (w : World) (hl0 : 1 ≤ l.length) (hl : l.length ≤ 1048575) (hk : k ≤ l.length) (hs : StepsAt w a b0 o l) :
    Calls Try.prog 20 #[.agg #[.int .i64 q, .int .i64 s, .slice a l.length cap, .int .i64 fr, .int .i64 b], .int .i64 k, .int .i64 lo, .int .i64 hi] w
      fun e w' => ∃ g gc, e = .returned (.agg #[.int .i64 q, .int .i64 s, .slice (some ⟨g, 0, none⟩) (heldK l k lo hi).length gc, .int .i64 (heldF fr l k lo), .int .i64 (heldE b l k hi)]) ∧
        StepsAt w' (some ⟨g, 0, none⟩) g 0 (heldK l k lo hi) ∧ Below w.heap.size w w' := by
  have key : Calls Try.prog 20 #[.agg #[.int .i64 q, .int .i64 s, .slice a l.length cap, .int .i64 fr, .int .i64 b], .int .i64 k, .int .i64 lo, .int .i64 hi] w
      fun e w' => ∃ v, e = .returned (.agg #[.int .i64 q, .int .i64 s, v, .int .i64 (heldF fr l k lo), .int .i64 (heldE b l k hi)]) ∧
        w'.ownsRow w.heap.size 65 7 v l.length (stepCells (heldK l k lo hi)) ∧ Below w.heap.size w w' := by
    rcases Nat.lt_or_ge k l.length with h | h
    · exact wfHeld_in q s fr b a b0 o cap l k lo hi w hl0 hl h hs
    · obtain rfl : k = l.length := by omega
      exact wfHeld_end q s fr b a b0 o cap l lo hi w hl0 hl hs
  refine key.mono ?_
  rintro e w' ⟨v, rfl, ho, hb⟩
  obtain ⟨g, gc, rfl, _, _⟩ := owns_some ho (by omega)
  refine ⟨g, gc, by rw [heldK_length], steps_owned ho, hb⟩

/-- The same, with what is known of the path it gives. -/
theorem wfHeld_ex (P : Int → Int → List Stp → Prop) (q s fr b : Int) (a : Option Addr) (b0 o cap : Nat) (l : List Stp) (k : Nat) (lo hi : Int) (w : World) (hl0 : 1 ≤ l.length) (hl : l.length ≤ 1048575) (hk : k ≤ l.length) (hP : P (heldF fr l k lo) (heldE b l k hi) (heldK l k lo hi)) (hs : StepsAt w a b0 o l) :
    Calls Try.prog 20 #[.agg #[.int .i64 q, .int .i64 s, .slice a l.length cap, .int .i64 fr, .int .i64 b], .int .i64 k, .int .i64 lo, .int .i64 hi] w
      fun e w' => ∃ g gc fr' b' l', e = .returned (.agg #[.int .i64 q, .int .i64 s, .slice (some ⟨g, 0, none⟩) l'.length gc, .int .i64 fr', .int .i64 b']) ∧
        l'.length = l.length ∧ Hid (P fr' b' l') ∧ StepsAt w' (some ⟨g, 0, none⟩) g 0 l' ∧ Below w.heap.size w w' :=
  (wfHeld_all q s fr b a b0 o cap l k lo hi w hl0 hl hk hs).mono fun _e _w' ⟨g, gc, h1, h2, h3⟩ => ⟨g, gc, _, _, _, h1, heldK_length l k lo hi, hP, h2, h3⟩

theorem p3_big (a0 : Option Addr) (n ccap : Nat) (w : World) (hn : n ≤ maxLen) (hb : 1048576 < n) : Calls Try.prog 4 #[.slice a0 n ccap] w fun e w' => e = .returned (.bool true) ∧ Below w.heap.size w w' := by
  have h1 : (1048576 : Int) < (n : Int) := by omega
  unfold maxLen at hn
  have h2 : (n : Int) ≤ 9223372036854775807 := by omega
  go_enter Try.func4, Try.ntmps4
  go_wp2
  go_ret
  exact ⟨rfl, Below.refl _ _⟩

set_option maxRecDepth 20000 in
set_option maxHeartbeats 4000000 in
theorem p3_any (hI : SpansSaid) (a0 : Option Addr) (cb co ccap : Nat) (zs0 : List Int) (w : World) (hz : BytesAt w a0 cb co zs0) (hl : zs0.length ≤ 1048576) (hc : zs0.length ≤ ccap) :
    Calls Try.prog 4 #[.slice a0 zs0.length ccap] w fun e w' => e = .returned (.bool true) ∧ Below w.heap.size w w' := by
  have h1 : ¬ (1048576 : Int) < (zs0.length : Int) := by omega
  go_enter Try.func4, Try.ntmps4
  go_wp2_with fail
  refine (spans_draw a0 cb co ccap zs0 w hz hl hc).mono ?_
  rintro e w1 ⟨q, s, fr, b, a, b0, o, cap, l, rfl, hll, hs1, hb1⟩
  clear hz h1
  have P1 := PathAt.new w1 q s fr b (.slice a l.length cap)
  have S1 := hs1.alloc (.cells #[.int .i64 q, .int .i64 s, .slice a l.length cap, .int .i64 fr, .int .i64 b] 27)
  have B1 := hb1.alloc hb1.size (.cells #[.int .i64 q, .int .i64 s, .slice a l.length cap, .int .i64 fr, .int .i64 b] 27)
  clear hs1 hb1
  go_wp2_with fail
  refine (hI q s fr b a b0 o cap l _ (by omega) S1).mono ?_
  rintro e w2 ⟨v2, rfl, ho2, hb2⟩
  have P2 := P1.keep hb2 P1.lt
  have S2 := S1.below hb2 S1.lt
  have B2 := B1.trans (hb2.mono B1.size)
  clear P1 S1 B1 hb2
  generalize w1.heap.size = X at *
  obtain ⟨⟨e0, e1, e2, e3, e4⟩, ef⟩ := P2.cells
  go_wp2_with fail
  refine (flyTubeI_any hI q s fr b a b0 o cap l _ (by omega) S2).mono ?_
  rintro e w3 ⟨v3, rfl, ho3, hb3⟩
  obtain ⟨c3, g3, k3, rfl, hT3⟩ := boxes_owned ho3
  have D3 : TgD w w3 X q s fr b a b0 o cap l v2 (flyL q s fr b l) c3 g3 (tubeL q s fr b l) :=
    ⟨B2.trans (hb3.mono B2.size), P2.keep hb3 P2.lt, S2.below hb3 S2.lt, owns_below ⟨ho2.1, ho2.2.imp id fun ⟨g, cap, cur, h1, _, h3⟩ => ⟨g, cap, cur, h1, Nat.zero_le _, h3⟩⟩ hb3, hT3⟩
  clear P2 S2 B2 ho2 ho3 hT3 hb3 e0 e1 e2 e3 e4 ef
  obtain ⟨⟨e0, e1, e2, e3, e4⟩, ef⟩ := D3.pa.cells
  go_wp2_with fail
  refine (pathS_any q s fr b a b0 o cap l _ (by omega) D3.st).mono ?_
  rintro e w4 ⟨rfl, hb4⟩
  have D4 := D3.below hb4
  clear D3 hb4 e0 e1 e2 e3 e4 ef
  obtain ⟨⟨e0, e1, e2, e3, e4⟩, ef⟩ := D4.pa.cells
  cases hfb : flyB q s fr b l with
  | false =>
    have hsp0 : flyL q s fr b l = [] := no_list hfb
    have htb0 : tubeL q s fr b l = [] := by unfold tubeL; rw [hfb]; rfl
    have HT0 : Hid (tubeL q s fr b l = []) := htb0
    rw [hsp0, htb0] at D4
    rw [htb0]
    have hv2 : ∃ c2 k2, v2 = .slice c2 0 k2 := by
      rcases D4.sp.2 with ⟨rfl, _⟩ | ⟨g, c, cur, rfl, _⟩
      · exact ⟨none, 0, rfl⟩
      · exact ⟨_, c, rfl⟩
    obtain ⟨c2, k2, rfl⟩ := hv2
    clear hsp0 htb0 hfb
    generalize pathB q s fr b l = pb
    cases pb
    all_goals
      go_wp2_with fail
      refine (flyTubeS_any q s fr b a b0 o cap l _ (by omega) D4.st).mono ?_
      rintro e w5 ⟨v5, rfl, ho5, hb5⟩
      rw [HT0.out] at ho5
      obtain ⟨c5, g5, k5, rfl, hT5⟩ := boxes_owned ho5
      have D5 := D4.below hb5
      clear D4 ho5 hb5 e0 e1 e2 e3 e4 ef
      go_wp2_with fail
      refine (wfTube_same c3 c5 g3 0 k3 g5 0 k5 [] _ (by simp) D5.tb hT5).mono ?_
      rintro e w6 ⟨rfl, hb6⟩
      have D6 := D5.below hb6
      clear D5 hT5 hb6
      go_wp2
      go_loopw [7] (fun v wr => v = .int .i64 0 ∧ wr = w6) (fun _ _ => 0)
      case atStart => exact ⟨rfl, rfl⟩
      case round =>
        obtain ⟨rfl, hwr⟩ := hrel
        have hwr2 := hwr.symm
        subst hwr2
        go_wp2
        go_loopw [11] (fun v wr => v = .int .i64 0 ∧ wr = w6) (fun _ _ => 0)
        case atStart => exact ⟨rfl, rfl⟩
        case round =>
          obtain ⟨rfl, hwr⟩ := hrel
          have hwr2 := hwr.symm
          subst hwr2
          go_wp2
          go_ret
          exact ⟨rfl, D6.old⟩
  | true =>
    have hpb : pathB q s fr b l = true := (flyL_at hfb).1
    have hF := map_len hfb
    have h40 := fly_len hfb
    have hl0 : 1 ≤ l.length := path_some hpb
    have htl : tubeL q s fr b l = tubeTo (flyL q s fr b l) l l.length := by unfold tubeL; rw [hfb]; rfl
    have hTl : (tubeL q s fr b l).length = l.length := by rw [htl, tubeTo_length]
    have HFB : Hid (flyB q s fr b l = true) := hfb
    have HSP : Hid (∀ k, k ≤ l.length → (flyL q s fr b l)[k]? = some (spanAt q s fr b l l.length k)) := fun k hk => map_at hfb hk
    have HTB : Hid (∀ k, k < l.length → (tubeL q s fr b l)[k]? = some ⟨(l.getD k .zero).x, (l.getD k .zero).y, (l.getD k .zero).lo, (l.getD k .zero).hi, (spanAt q s fr b l l.length k).1, (spanAt q s fr b l l.length (k + 1)).2 - 1⟩) := fun k hk => tube_get hfb hk
    have HR : Hid (∀ k, 0 ≤ (spanAt q s fr b l l.length k).1 ∧ (spanAt q s fr b l l.length k).2 ≤ 10000) := fun k => bwd_range hpb l.length (l.length - k)
    have HSM : Hid (∀ k, k ≤ l.length → (spanAt q s fr b l l.length k).1 ≤ (spanAt q s fr b l l.length k).2) := fun k hk => fly_some hfb hk
    have htS := flyTubeS_any q s fr b a b0 o cap l
    rw [hpb]
    clear htl hpb hfb
    generalize flyL q s fr b l = F at *
    generalize tubeL q s fr b l = T at *
    obtain ⟨g2, k2, rfl, _, _⟩ := owns_some D4.sp (by omega)
    have n1 : (true != true) = false := rfl
    have n2 : ((T.length : Int) != (l.length : Int)) = false := by simp; omega
    have hT40 : T.length ≤ 1048576 := by omega
    have HF : Hid (F.length = l.length + 1) := hF
    have HTL : Hid (T.length = l.length) := hTl
    clear hF hTl
    go_wp2_with fail
    refine (htS _ (by omega) D4.st).mono ?_
    rintro e w5 ⟨v5, rfl, ho5, hb5⟩
    obtain ⟨c5, g5, k5, rfl, hT5⟩ := boxes_owned ho5
    have D5 := D4.below hb5
    clear D4 ho5 hb5 e0 e1 e2 e3 e4 ef htS
    obtain ⟨⟨e0, e1, e2, e3, e4⟩, ef⟩ := D5.pa.cells
    go_wp2_with fail
    refine (wfTube_same c3 c5 g3 0 k3 g5 0 k5 T _ hT40 D5.tb hT5).mono ?_
    rintro e w6 ⟨rfl, hb6⟩
    have D6 := D5.below hb6
    clear D5 hT5 hb6 e0 e1 e2 e3 e4 ef
    obtain ⟨⟨e0, e1, e2, e3, e4⟩, ef⟩ := D6.pa.cells
    go_wp2
    clear e0 e1 e2 e3 e4 ef
    go_loopw [7] (fun v wr => ∃ k : Nat, k ≤ l.length + 1 ∧ v = .int .i64 k ∧ TgD w wr X q s fr b a b0 o cap l (.slice (some ⟨g2, 0, none⟩) F.length k2) F c3 g3 T) (fun v _ => l.length + 1 - (intOf v).toNat)
    case atStart => exact ⟨0, Nat.zero_le _, rfl, D6⟩
    case round =>
      clear D6
      obtain ⟨k, hk, rfl, D7⟩ := hrel
      have k0 : (0 : Int) ≤ (k : Int) := by omega
      by_cases hlt : k < l.length + 1
      · have k1 : (k : Int) < (l.length : Int) + 1 := by omega
        have hspk := HSP.out k (by omega)
        have hrk := HR.out k
        have hsm := HSM.out k (by omega)
        rcases hsa : spanAt q s fr b l l.length k with ⟨lo, hi⟩
        rw [hsa] at hspk hrk hsm
        have HSA : Hid (spanAt q s fr b l l.length k = (lo, hi)) := hsa
        have HSK : Hid (F[k]? = some (lo, hi)) := hspk
        obtain ⟨r1, r2⟩ := hrk
        have r3 : lo ≤ hi := hsm
        clear hsa hspk hsm
        have kF : (k : Int) < (F.length : Int) := by have := HF.out; omega
        have kN : k < F.length := by have := HF.out; omega
        obtain ⟨y0, y1⟩ := spanCells_get F k _ HSK.out
        have x0 := (D7.sp.cellAt (k * 2) (by omega)).trans y0
        have x1 := (D7.sp.cellAt (k * 2 + 1) (by omega)).trans y1
        clear k1
        go_wp2
        clear x0 x1
        go_loopw [8] (fun v wr => ∃ t : Int, v = .int .i64 t ∧ lo ≤ t ∧ t ≤ 20000 ∧ TgD w wr X q s fr b a b0 o cap l (.slice (some ⟨g2, 0, none⟩) F.length k2) F c3 g3 T) (fun v _ => (hi + 1 - intOf v).toNat)
        case atStart => exact ⟨lo, rfl, Int.le_refl _, by omega, D7⟩
        case round =>
          clear D7
          obtain ⟨t, rfl, t0, t1, D8⟩ := hrel
          have x0 := (D8.sp.cellAt (k * 2) (by omega)).trans y0
          have x1 := (D8.sp.cellAt (k * 2 + 1) (by omega)).trans y1
          by_cases htl : t ≤ hi
          · obtain ⟨⟨e0, e1, e2, e3, e4⟩, ef⟩ := D8.pa.cells
            have hW := fun w => wfHeld_ex (fun fr' b' l' => flyB q s fr' b' l' = true) q s fr b a b0 o cap l k t t w hl0 (by omega) (by omega) (tight_span HFB.out (by omega) (by rw [HSA.out]; exact ⟨t0, htl⟩))
            go_wp2_with fail
            refine (hW _ D8.st).mono ?_
            clear hW
            rintro e w9 ⟨g, gc, fr', b', l', rfl, hln, HA, hs9, hb9⟩
            have D9 := D8.below hb9
            have hl9 : l'.length ≤ 1048576 := by omega
            clear D8 hb9 x0 x1 e0 e1 e2 e3 e4 ef hln
            go_wp2_with fail
            refine (hI q s fr' b' _ g 0 gc l' _ hl9 hs9).mono ?_
            rintro e w10 ⟨v10, rfl, _, hb10⟩
            rw [HA.out]
            have D10 := D9.below hb10
            clear D9 hb10 hs9 HA
            have x0 := (D10.sp.cellAt (k * 2) (by omega)).trans y0
            have x1 := (D10.sp.cellAt (k * 2 + 1) (by omega)).trans y1
            have m1 : IntKind.i64.wrap (hi - lo) = hi - lo := by rw [IntKind.wrap_i64]; omega
            have m2 : (hi - lo).tdiv 9 = (hi - lo) / 9 := Int.tdiv_eq_ediv_of_nonneg (by omega)
            have m3 : 0 ≤ (hi - lo) / 9 := by omega
            have m4 : (hi - lo) / 9 ≤ 2000 := by omega
            go_wp2
            go_quiet (fail)
            go_wp2
            go_roundw
            case rel =>
              have hdr : Below w10.heap.size w10 (w10.drewN nq) := ⟨rfl, rfl, rfl, Nat.le_refl _, fun _ _ => rfl⟩
              exact ⟨t + 1 + (hi - lo) / 9, by go_num, by omega, by omega, D10.below hdr⟩
            case measure => simp [intOf]; omega
          · go_wp2
            go_roundw
            case rel => exact ⟨k + 1, by omega, by go_num, D8⟩
            case measure => simp [intOf]; omega
      · obtain rfl : k = l.length + 1 := by omega
        have kF : ¬ ((l.length : Int) + 1 < (F.length : Int)) := by have := HF.out; omega
        go_wp2
        go_loopw [11] (fun v wr => ∃ k : Nat, k ≤ l.length ∧ v = .int .i64 k ∧ TgD w wr X q s fr b a b0 o cap l (.slice (some ⟨g2, 0, none⟩) F.length k2) F c3 g3 T) (fun v _ => l.length - (intOf v).toNat)
        case atStart => exact ⟨0, Nat.zero_le _, rfl, D7⟩
        case round =>
          clear D7 k0 hk hlt kF
          obtain ⟨k, hk, rfl, D8⟩ := hrel
          have k0 : (0 : Int) ≤ (k : Int) := by omega
          by_cases hlt : k < l.length
          · have htk := HTB.out k hlt
            have hr1 := HR.out k
            have hr2 := HR.out (k + 1)
            have hsm := HSM.out k (by omega)
            rcases hsa : spanAt q s fr b l l.length k with ⟨lo, hi⟩
            rcases hsb : spanAt q s fr b l l.length (k + 1) with ⟨lo', hi'⟩
            rw [hsa] at htk hr1 hsm
            rw [hsb] at htk hr2
            have HSA : Hid (spanAt q s fr b l l.length k = (lo, hi)) := hsa
            have HSB : Hid (spanAt q s fr b l l.length (k + 1) = (lo', hi')) := hsb
            clear hsa hsb
            have r1 : 0 ≤ lo := hr1.1
            have r2 : lo ≤ 10000 := by have h1 : lo ≤ hi := hsm; have h2 : hi ≤ 10000 := hr1.2; omega
            have r3 : hi' ≤ 10000 := hr2.2
            clear hr1 hr2 hsm
            generalize (l.getD k .zero).x = bx at *
            generalize (l.getD k .zero).y = bY at *
            generalize (l.getD k .zero).lo = bl at *
            generalize (l.getD k .zero).hi = bh at *
            have hne : T ≠ [] := by intro e; rw [e] at htk; simp at htk
            obtain rfl := D8.tb.here hne
            obtain ⟨c0, c1, c2, c3, c4, c5⟩ := D8.tb.six htk
            simp only [Nat.zero_add] at c0 c1 c2 c3 c4 c5
            have kT : (k : Int) < (T.length : Int) := by have := HTL.out; omega
            have kN : k < T.length := by have := HTL.out; omega
            have D9 := D8.below ((Below.refl _ _).alloc (Nat.le_refl _) (.cells #[.int .i64 bx, .int .i64 bY, .int .i64 bl, .int .i64 bh, .int .i64 lo, .int .i64 (hi' - 1)] 47))
            clear htk
            go_wp2
            obtain ⟨Y, hYe⟩ : ∃ Y, wr.heap.size = Y := ⟨_, rfl⟩
            rw [hYe]
            have z4 : (wr.alloc (.cells #[.int .i64 bx, .int .i64 bY, .int .i64 bl, .int .i64 bh, .int .i64 lo, .int .i64 (hi' - 1)] 47)).cell? ⟨Y, 4, none⟩ = some (.int .i64 lo) := by rw [← hYe]; simp [go_sem]
            have z5 : (wr.alloc (.cells #[.int .i64 bx, .int .i64 bY, .int .i64 bl, .int .i64 bh, .int .i64 lo, .int .i64 (hi' - 1)] 47)).cell? ⟨Y, 5, none⟩ = some (.int .i64 (hi' - 1)) := by rw [← hYe]; simp [go_sem]
            have z6 : Y < (wr.alloc (.cells #[.int .i64 bx, .int .i64 bY, .int .i64 bl, .int .i64 bh, .int .i64 lo, .int .i64 (hi' - 1)] 47)).heap.size := by simp; omega
            go_loopw [13] (fun v wr' => ∃ t : Int, v = .int .i64 t ∧ lo ≤ t ∧ t ≤ 20000 ∧ TgD w wr' X q s fr b a b0 o cap l (.slice (some ⟨g2, 0, none⟩) F.length k2) F (some ⟨g3, 0, none⟩) g3 T ∧ wr'.cell? ⟨Y, 4, none⟩ = some (.int .i64 lo) ∧ wr'.cell? ⟨Y, 5, none⟩ = some (.int .i64 (hi' - 1)) ∧ Y < wr'.heap.size) (fun v _ => (hi' - intOf v).toNat)
            case atStart => exact ⟨lo, rfl, Int.le_refl _, by omega, D9, z4, z5, z6⟩
            case round =>
              clear D8 D9 c0 c1 c2 c3 c4 c5 z4 z5 z6 hYe
              obtain ⟨t, rfl, t0, t1, D8, z4, z5, hY⟩ := hrel
              by_cases htl : t ≤ hi' - 1
              · obtain ⟨⟨e0, e1, e2, e3, e4⟩, ef⟩ := D8.pa.cells
                obtain ⟨Z, hZ, hZl, hZa, hZ1, hZ2, hZ3, hZr⟩ := tight_first HFB.out hlt (t := t) (by omega) (by rw [HSA.out]; exact t0) (by rw [HSB.out]; show t + 1 ≤ hi'; omega)
                have zl1 : Z.length ≤ 1048576 := by omega
                have zl2 : k + 1 < Z.length := by omega
                have HZA : Hid (allowB q s fr b l Z = true) := hZa
                have HZ1 : Hid (∀ j, j < k → Z.getD (j + 1) 0 ≤ t) := hZ1
                have HZ2 : Hid (Z.getD k 0 ≤ t) := hZ2
                have HZ3 : Hid (t < Z.getD (k + 1) 0) := hZ3
                clear hZa hZ1 hZ2 hZ3 hZr hZl
                have hW := fun w => wfHeld_ex (fun fr1 b1 l1 => (flyL q s (heldF fr1 l1 (k + 1) (t + 1)) (heldE b1 l1 (k + 1) 10000) (heldK l1 (k + 1) (t + 1) 10000)).map (·.1) = Z) q s fr b a b0 o cap l k 0 t w hl0 (by omega) (by omega) hZ
                clear hZ
                go_wp2_with fail
                refine (hW _ D8.st).mono ?_
                clear hW
                rintro e w9 ⟨g, gc, fr1, b1, l1, rfl, hln, HP, hs9, hb9⟩
                have D9 := D8.below hb9
                have z4' := (hb9.cell (p := ⟨Y, 4, none⟩) hY).trans z4
                have z5' := (hb9.cell (p := ⟨Y, 5, none⟩) hY).trans z5
                have hY' := Nat.lt_of_lt_of_le hY hb9.size
                clear D8 hb9 e0 e1 e2 e3 e4 ef z4 z5 hY
                have m1 : IntKind.i64.wrap ((k : Int) + 1) = (k : Int) + 1 := by rw [IntKind.wrap_i64]; omega
                have m2 : IntKind.i64.wrap (t + 1) = t + 1 := by rw [IntKind.wrap_i64]; omega
                have hW := fun w => wfHeld_ex (fun fr2 b2 l2 => (flyL q s fr2 b2 l2).map (·.1) = Z) q s fr1 b1 (some ⟨g, 0, none⟩) g 0 gc l1 (k + 1) (t + 1) 10000 w (by omega) (by omega) (by omega) HP.out
                rw [show ((k + 1 : Nat) : Int) = (k : Int) + 1 from rfl] at hW
                have hl1 : l1.length ≤ 1048575 := by omega
                clear HP hln
                go_wp2_with fail
                refine (hW _ hs9).mono ?_
                clear hW
                rintro e w10 ⟨g', gc', fr2, b2, l2, rfl, hln, HZ, hs10, hb10⟩
                have D10 := D9.below hb10
                have z4 := (hb10.cell (p := ⟨Y, 4, none⟩) hY').trans z4'
                have z5 := (hb10.cell (p := ⟨Y, 5, none⟩) hY').trans z5'
                have hY := Nat.lt_of_lt_of_le hY' hb10.size
                have hl2 : l2.length ≤ 1048575 := by omega
                clear D9 hb10 z4' z5' hY' hs9 hln hl1
                go_wp2_with fail
                refine (flyfirst_any hI q s fr2 b2 _ g' 0 gc' l2 _ hl2 hs10).mono ?_
                rintro e w11 ⟨v11, rfl, ho11, hb11⟩
                rw [HZ.out] at ho11
                obtain ⟨f11, g11, k11, rfl, hI11, _⟩ := ints_owned ho11
                have D11 := D10.below hb11
                have z4' := (hb11.cell (p := ⟨Y, 4, none⟩) hY).trans z4
                have z5' := (hb11.cell (p := ⟨Y, 5, none⟩) hY).trans z5
                have hY' := Nat.lt_of_lt_of_le hY hb11.size
                clear D10 hb11 z4 z5 hY hs10 ho11 HZ
                go_wp2_with fail
                refine (where_any Z f11 g11 k11 t k _ hI11 zl1 zl2 HZ1.out HZ2.out HZ3.out).mono ?_
                rintro e w12 ⟨rfl, hb12⟩
                have D12 := D11.below hb12
                have z4 := (hb12.cell (p := ⟨Y, 4, none⟩) hY').trans z4'
                have z5 := (hb12.cell (p := ⟨Y, 5, none⟩) hY').trans z5'
                have hY := Nat.lt_of_lt_of_le hY' hb12.size
                have hI12 := hI11.below hb12 hI11.lt
                clear D11 hb12 z4' z5' hY' hI11
                obtain ⟨⟨e0, e1, e2, e3, e4⟩, ef⟩ := D12.pa.cells
                have n4 : ((k : Int) != (k : Int)) = false := by simp
                go_wp2_with fail
                refine (allow_any q s fr b a b0 o cap l f11 g11 0 k11 Z _ (by omega) zl1 D12.st hI12).mono ?_
                rw [HZA.out]
                rintro e w13 ⟨rfl, hb13⟩
                have D13 := D12.below hb13
                have z4' := (hb13.cell (p := ⟨Y, 4, none⟩) hY).trans z4
                have z5' := (hb13.cell (p := ⟨Y, 5, none⟩) hY).trans z5
                have hY' := Nat.lt_of_lt_of_le hY hb13.size
                clear D12 hb13 z4 z5 hY hI12 e0 e1 e2 e3 e4 ef
                have m3 : IntKind.i64.wrap (hi' - 1 - lo) = hi' - 1 - lo := by rw [IntKind.wrap_i64]; omega
                have m4 : (hi' - 1 - lo).tdiv 9 = (hi' - 1 - lo) / 9 := Int.tdiv_eq_ediv_of_nonneg (by omega)
                have m5 : 0 ≤ (hi' - 1 - lo) / 9 := by omega
                have m6 : (hi' - 1 - lo) / 9 ≤ 2000 := by omega
                go_wp2
                go_roundw
                case rel => exact ⟨t + 1 + (hi' - 1 - lo) / 9, by go_num, by omega, by omega, D13, z4', z5', hY'⟩
                case measure => simp [intOf]; omega
              · go_wp2
                go_roundw
                case rel => exact ⟨k + 1, by omega, by go_num, D8⟩
                case measure => simp [intOf]; omega
          · obtain rfl : k = l.length := by omega
            have kF : ¬ ((l.length : Int) < (T.length : Int)) := by have := HTL.out; omega
            go_wp2
            go_ret
            exact ⟨rfl, D8.old⟩
end Go.Proofs.Ytfjlbgegjjdflaa

namespace Go.Proofs.Ytfjlbgegjjdflaa
open Go.RowKit

/-- The method of a step that is a bound. -/
theorem method_step (nm : String) (h : Try.prog.underlying 87 = some (.interface #[(nm, 90)])) (t : Stp) (w : World) : (method 227 65 t.val nm).run Try.prog w = .ok (104, t.val) w := by
  rw [Try.underlying87] at h
  simp only [Option.some.injEq, TypeDesc.interface.injEq, Array.mk.injEq, List.cons.injEq, Prod.mk.injEq, and_true] at h
  subst h
  kernel_rfl
/-- The method of a path's end that is a bound. -/
theorem method_end (nm : String) (h : Try.prog.underlying 87 = some (.interface #[(nm, 90)])) (fr b : Int) (w : World) : (method 227 107 (.agg #[.int .i64 fr, .int .i64 b]) nm).run Try.prog w = .ok (105, .agg #[.int .i64 fr, .int .i64 b]) w := by
  rw [Try.underlying87] at h
  simp only [Option.some.injEq, TypeDesc.interface.injEq, Array.mk.injEq, List.cons.injEq, Prod.mk.injEq, and_true] at h
  subst h
  kernel_rfl
end Go.Proofs.Ytfjlbgegjjdflaa

namespace Go.Proofs.Ytfjlbgegjjdflaa
open Go.RowKit

/-- The windows of the first k places. -/
def winL (fr b : Int) (l : List Stp) (k : Nat) : List (Int × Int) := (List.range k).map fun i => (lowB fr l i, highB b l i)
theorem winL_succ (fr b : Int) (l : List Stp) (k : Nat) : winL fr b l (k + 1) = winL fr b l k ++ [(lowB fr l k, highB b l k)] := by simp [winL, List.range_succ]

theorem span_info2 : (Try.prog.info? 38).map (fun i => (i.zero, i.size, i.bytes)) = some (some (.agg #[.int .i64 0, .int .i64 0]), 2, 16) := by kernel_rfl

set_option maxRecDepth 20000 in
set_option maxHeartbeats 2000000 in
theorem winds_any (q s fr b : Int) (a : Option Addr) (b0 o cap : Nat) (l : List Stp) (w : World) (hl : l.length ≤ 1048576) (hs : StepsAt w a b0 o l) :
    Calls Try.prog 32 #[.agg #[.int .i64 q, .int .i64 s, .slice a l.length cap, .int .i64 fr, .int .i64 b]] w
      fun e w' => ∃ v, e = .returned v ∧ w'.ownsRow w.heap.size 38 2 v (l.length + 1) (spanCells (winL fr b l (l.length + 1))) ∧ Below w.heap.size w w' := by
  obtain ⟨i0, hi, hz0, hz1, hz2⟩ := info_parts span_info2
  go_enter Try.func32, Try.ntmps32
  go_wp2_with fail
  refine (bounds_any _ _ _ _ _ b0 o _ _ _ hl (hs.alloc _)).mono ?_
  rintro e w1 ⟨v, rfl, hown, hb1⟩
  have hB1 := (BoxP.new w q s fr b (.slice a l.length cap) 27).below hb1
  obtain ⟨g, vcap, rfl, _, hg⟩ := owns_some hown (by omega)
  have HX : Hid (∀ j, j < l.length + 1 → w1.cell? ⟨g, j, none⟩ = (bndTo l l.length ++ [Value.iface 107 (.agg #[.int .i64 fr, .int .i64 b])])[j]?) := fun j hj => hown.cellAt j (by omega)
  clear hown hb1
  go_wp2
  go_loopw [3, 11] (fun v u wr => ∃ k : Nat, k ≤ l.length + 1 ∧ u = .int .i64 k ∧ Below w1.heap.size w1 wr ∧ wr.ownsRow w1.heap.size 38 2 v k (spanCells (winL fr b l k))) (fun _ u _ => l.length + 1 - (intOf u).toNat)
  case atStart => exact ⟨0, Nat.zero_le _, rfl, Below.refl _ _, World.ownsRow_nil _ _ _ _⟩
  case round =>
    obtain ⟨k, hk, rfl, hb, hown⟩ := hrel
    by_cases hlt : k < l.length + 1
    · have hcell : wr.cell? ⟨g, k, none⟩ = _ := (hb.cell (p := ⟨g, k, none⟩) hg).trans (HX.out k hlt)
      have hz := hb.size
      by_cases hkl : k < l.length
      · have e1 : (bndTo l l.length ++ [Value.iface 107 (.agg #[.int .i64 fr, .int .i64 b])])[k]? = some (stepV (l.getD k .zero)) := by
          rw [List.getElem?_append_left (by rw [bndTo_length]; exact hkl)]
          simp [bndTo, hkl]
        rw [e1] at hcell
        obtain ⟨t, ht⟩ : ∃ t, l.getD k .zero = t := ⟨_, rfl⟩
        rw [ht] at hcell
        clear e1
        have hm := method_step _ Try.underlying87 t
        have HE : Hid (winL fr b l (k + 1) = winL fr b l k ++ [(t.fr, t.by_)]) := by show _ = _; rw [winL_succ]; unfold lowB highB; rw [if_pos hkl, if_pos hkl, ht]
        clear ht
        go_wp2_with (first
          | (go_at_call 104; refine (windowS_any _ _ _ _ _ _ _ _).mono ?_; rintro e w2 ⟨rfl, hb2⟩)
          | (at_builtin; (refine wpList_append_own _ rfl _ _ 31 rfl w1.heap.size 38 i0 (.agg #[.int .i64 0, .int .i64 0]) 2 16 Try.underlying31 hi hz0 hz1 hz2 rfl (by decide) _ _ _ rfl ((owns_below hown hb2).alloc _) ⟨w2.heap.size, 0, none⟩ 1 1 [.int .i64 t.fr, .int .i64 t.by_] rfl rfl (two_new _ _ _ _) (by simp [Value.oneCell']) (by unfold maxLen; omega) (by omega) (by have := hb2.size; simp; omega) ?_); intro v' w3 hown' hgrow _))
        have hbel : Below w1.heap.size wr w3 := ((hb2.mono hz).alloc (by have := hb2.size; omega) _).grown hgrow (by have := hb2.size; simp; omega) (owns_base hown)
        go_roundw
        case rel =>
          refine ⟨k + 1, by omega, by go_num, hb.trans hbel, ?_⟩
          rw [HE.out, spanCells_snoc]
          exact hown'
        case measure => simp [intOf]; omega
      · have e1 : (bndTo l l.length ++ [Value.iface 107 (.agg #[.int .i64 fr, .int .i64 b])])[k]? = some (Value.iface 107 (.agg #[.int .i64 fr, .int .i64 b])) := by
          rw [List.getElem?_append_right (by rw [bndTo_length]; omega), bndTo_length, show k - l.length = 0 by omega]
          rfl
        rw [e1] at hcell
        clear e1
        have hm := method_end _ Try.underlying87 fr b
        have HE : Hid (winL fr b l (k + 1) = winL fr b l k ++ [(fr, b)]) := by show _ = _; rw [winL_succ]; unfold lowB highB; rw [if_neg hkl, if_neg hkl]
        go_wp2_with (first
          | (go_at_call 105; refine (windowE_any _ _ _).mono ?_; rintro e w2 ⟨rfl, hb2⟩)
          | (at_builtin; (refine wpList_append_own _ rfl _ _ 31 rfl w1.heap.size 38 i0 (.agg #[.int .i64 0, .int .i64 0]) 2 16 Try.underlying31 hi hz0 hz1 hz2 rfl (by decide) _ _ _ rfl ((owns_below hown hb2).alloc _) ⟨w2.heap.size, 0, none⟩ 1 1 [.int .i64 fr, .int .i64 b] rfl rfl (two_new _ _ _ _) (by simp [Value.oneCell']) (by unfold maxLen; omega) (by omega) (by have := hb2.size; simp; omega) ?_); intro v' w3 hown' hgrow _))
        have hbel : Below w1.heap.size wr w3 := ((hb2.mono hz).alloc (by have := hb2.size; omega) _).grown hgrow (by have := hb2.size; simp; omega) (owns_base hown)
        go_roundw
        case rel =>
          refine ⟨k + 1, by omega, by go_num, hb.trans hbel, ?_⟩
          rw [HE.out, spanCells_snoc]
          exact hown'
        case measure => simp [intOf]; omega
    · obtain rfl : k = l.length + 1 := by omega
      have hz := hB1.old.size
      go_wp2
      go_ret
      exact ⟨_, rfl, ⟨hown.1, hown.2.imp id fun ⟨g, cap, cur, h1, h2, h3⟩ => ⟨g, cap, cur, h1, by omega, h3⟩⟩, hB1.old.trans (hb.mono hB1.old.size)⟩
end Go.Proofs.Ytfjlbgegjjdflaa

namespace Go.Proofs.Ytfjlbgegjjdflaa
open Go.RowKit Go.Shelf
attribute [local go_sem] Oper.semAt_some

/-- A step of a list, with its place. -/
abbrev El (l : List Stp) : Type := { x : Nat × Stp // l[x.1]? = some x.2 }
/-- The first k steps, each with its place. -/
def allE (l : List Stp) : Nat → List (El l)
  | 0 => []
  | k + 1 => allE l k ++ (match h : l[k]? with | some t => [⟨(k, t), h⟩] | none => [])
theorem allE_succ {l : List Stp} {k : Nat} {t : Stp} (h : l[k]? = some t) : allE l (k + 1) = allE l k ++ [⟨(k, t), h⟩] := by
  show allE l k ++ (match h : l[k]? with | some t => [⟨(k, t), h⟩] | none => []) = _
  congr 1
  split
  · rename_i u hu
    rw [h] at hu
    cases hu
    rfl
  · rename_i hu
    rw [h] at hu
    cases hu
theorem allE_length (l : List Stp) : ∀ k, k ≤ l.length → (allE l k).length = k
  | 0, _ => rfl
  | k + 1, hk => by
    rw [allE_succ (t := l[k]) (List.getElem?_eq_getElem (by omega)), List.length_append, allE_length l k (by omega)]; rfl
/-- The last k steps, from the last one on. -/
def backE (l : List Stp) : Nat → List (El l)
  | 0 => []
  | k + 1 => backE l k ++ (match h : l[l.length - 1 - k]? with | some t => [⟨(l.length - 1 - k, t), h⟩] | none => [])
theorem backE_succ {l : List Stp} {k m : Nat} {t : Stp} (hm : l.length - 1 - k = m) (h : l[m]? = some t) : backE l (k + 1) = backE l k ++ [⟨(m, t), h⟩] := by
  subst hm
  show backE l k ++ (match h : l[l.length - 1 - k]? with | some t => [⟨(l.length - 1 - k, t), h⟩] | none => []) = _
  congr 1
  split
  · rename_i u hu
    rw [h] at hu
    cases hu
    rfl
  · rename_i hu
    rw [h] at hu
    cases hu
theorem backE_length (l : List Stp) : ∀ k, k ≤ l.length → (backE l k).length = k
  | 0, _ => rfl
  | k + 1, hk => by
    rw [backE_succ (t := l[l.length - 1 - k]) rfl (List.getElem?_eq_getElem (by omega)), List.length_append, backE_length l k (by omega)]; rfl

/-- All blocks below n₀ but g lie as they lay. -/
structure KeepX (n₀ g : Nat) (A B : World) : Prop where
  size : A.heap.size ≤ B.heap.size
  block : ∀ i, i < n₀ → i ≠ g → B.heap[i]? = A.heap[i]?
theorem KeepX.refl (n₀ g : Nat) (A : World) : KeepX n₀ g A A := ⟨Nat.le_refl _, fun _ _ _ => rfl⟩
theorem KeepX.trans {n₀ g : Nat} {A B C : World} (h : KeepX n₀ g A B) (k : KeepX n₀ g B C) : KeepX n₀ g A C := ⟨Nat.le_trans h.size k.size, fun i hi hg => (k.block i hi hg).trans (h.block i hi hg)⟩
theorem KeepX.of_below {n₀ g : Nat} {A B : World} (h : Below n₀ A B) : KeepX n₀ g A B := ⟨h.size, fun i hi _ => h.block i hi⟩
theorem KeepX.cell {n₀ g : Nat} {A B : World} (h : KeepX n₀ g A B) {p : Addr} (hp : p.block < n₀) (hg : p.block ≠ g) : B.cell? p = A.cell? p := World.cell?_of_block (h.block p.block hp hg)
theorem KeepX.putObj {n₀ g : Nat} {w : World} (hn : n₀ ≤ w.heap.size) (W : World) (l : Nat) (o o' : Obj) (hl : w.heap.size ≤ l) (_ : W.heap[l]? = some o) (_ : o.isCells = false) (_ : o.isWalk = false) : KeepX n₀ g W (W.putObj l o') :=
  ⟨by simp, fun i hi _ => World.putObj_heap_other (by omega)⟩
theorem StepsAt.keepX {w w' : World} {a : Option Addr} {b o n₀ g : Nat} {l : List Stp} (h : StepsAt w a b o l) (hb : KeepX n₀ g w w') (hB : l ≠ [] → b < n₀ ∧ b ≠ g) : StepsAt w' a b o l where
  here := h.here
  lt hl := Nat.lt_of_lt_of_le (h.lt hl) hb.size
  cell i s hi j v hv := by
    have hne : l ≠ [] := by intro e; subst e; simp at hi
    rw [hb.cell (p := ⟨b, o + i * 7 + j, none⟩) (hB hne).1 (hB hne).2]
    exact h.cell i s hi j v hv

abbrev encA {l : List Stp} (x : El l) : Array Value := #[.int .i64 (x.1.1 : Int), x.1.2.val]

set_option maxRecDepth 100000 in
set_option maxHeartbeats 2000000 in
theorem all1_in (n : Nat) (hn : 1 ≤ n) (lp Bs n₀ b0 o cap : Nat) (a : Option Addr) (l : List Stp) (hl : l.length ≤ 1048576) (gr : Nat) (hBs : Bs < n₀ ∧ Bs ≠ gr) (hb0 : l ≠ [] → b0 < n₀ ∧ b0 ≠ gr) (J Jx : List (El l) → World → Prop) (hJ : ∀ s A A', J s A → A.grownBy A' none → J s A')
    (hY : ∀ pre x W, J pre W → pre.length < l.length → YieldAt Fence.wide (n - 1) Try.prog lp (encA x) W fun e W' =>
      (e = .returned (.bool true) ∧ J (pre ++ [x]) W' ∧ KeepX n₀ gr W W') ∨ (e = .returned (.bool false) ∧ Jx (pre ++ [x]) W'))
    (W : World) (hn₀ : n₀ ≤ W.heap.size) (hc : W.cell? ⟨Bs, 0, none⟩ = some (.slice a l.length cap)) (hs : StepsAt W a b0 o l) (h0 : J [] W) :
    CallsIn Fence.wide n Try.prog 68 #[.func (.yield lp) #[] #[], .pointer (some ⟨Bs, 0, none⟩)] W fun e W' => (∃ v, e = .returned v) ∧
      ((∃ ys, ys = allE l l.length ∧ J ys W') ∨ (∃ pre, (∃ k, k ≤ l.length ∧ pre = allE l k) ∧ Jx pre W')) := by
  refine callsIn_of_wp Try.func68 rfl trivial ?_ rfl
  simp only [Try.ntmps68, List.size_toArray, List.length_cons, List.length_nil, Nat.reduceAdd, Nat.reduceSub, Array.replicate_succ, Array.replicate_zero, List.push_toArray, List.append_toArray, List.nil_append, List.cons_append]
  gi_wp2
  gi_loopw [7] (fun i wr => ∃ k : Nat, k ≤ l.length ∧ i = .int .i64 (k : Int) ∧ J (allE l k) wr ∧ KeepX n₀ gr W wr) (fun i _ => l.length - (intOf i).toNat)
  case atStart => exact ⟨0, Nat.zero_le _, rfl, h0, KeepX.refl _ _ _⟩
  case round =>
    obtain ⟨k, hk, rfl, hJs, hnx⟩ := hrel
    have hcx := (hnx.cell (p := ⟨Bs, 0, none⟩) hBs.1 hBs.2).trans hc
    by_cases hlt : k < l.length
    · obtain ⟨t, htk⟩ : ∃ t, l[k]? = some t := ⟨l[k], List.getElem?_eq_getElem hlt⟩
      have hne : l ≠ [] := by intro e; subst e; simp at hlt
      obtain rfl := hs.here hne
      have hs' := hs.keepX hnx hb0
      obtain ⟨d0, d1, d2, d3, d4, d5, d6⟩ := hs'.seven htk
      have HP : Hid (allE l (k + 1) = allE l k ++ [⟨(k, t), htk⟩]) := allE_succ htk
      have hga : wr.grownBy (wr.alloc (.cells #[.int .i64 t.x, .int .i64 t.y, .int .i64 t.lo, .int .i64 t.hi, .int .i64 t.fr, .int .i64 t.by_, .bool t.ho] 65)) none :=
        ⟨rfl, rfl, rfl, by simp, fun j hj _ => Below.heap_alloc wr _ j hj⟩
      have hba : KeepX n₀ gr W (wr.alloc (.cells #[.int .i64 t.x, .int .i64 t.y, .int .i64 t.lo, .int .i64 t.hi, .int .i64 t.fr, .int .i64 t.by_, .bool t.ho] 65)) := hnx.trans ⟨by simp, fun i hi _ => Below.heap_alloc wr _ i (by have := hnx.size; omega)⟩
      obtain ⟨fn, tmps, assign, body, hy, hR⟩ := hY _ ⟨(k, t), htk⟩ _ (hJ _ _ _ hJs hga) (by rw [allE_length l k hk]; omega)
      dsimp only [encA] at hy
      have hR' := hR.mono (R' := fun e W' => ∃ bb : Bool, e = .returned (.bool bb) ∧ ((bb = true ∧ J (allE l k ++ [⟨(k, t), htk⟩]) W' ∧ KeepX n₀ gr (wr.alloc (.cells #[.int .i64 t.x, .int .i64 t.y, .int .i64 t.lo, .int .i64 t.hi, .int .i64 t.fr, .int .i64 t.by_, .bool t.ho] 65)) W') ∨ (bb = false ∧ Jx (allE l k ++ [⟨(k, t), htk⟩]) W'))) (by
        rintro e W' (⟨h1, h2, h3⟩ | ⟨h1, h2⟩)
        · exact ⟨true, h1, .inl ⟨rfl, h2, h3⟩⟩
        · exact ⟨false, h1, .inr ⟨rfl, h2⟩⟩)
      clear hs' hY hR
      have k0 : (0 : Int) ≤ (k : Int) := by omega
      have k1 : (k : Int) < (l.length : Int) := by omega
      gi_wp2_with (refine hR'.mono ?_; rintro e W3 ⟨bb, rfl, hor⟩)
      all_goals rename_i hbb
      · refine bodyPost_ret (results_none rfl _ _ _) rfl ?_
        rcases hor with ⟨rfl, hJ3, hk3⟩ | ⟨rfl, hJx3⟩
        · cases hbb
        · exact ⟨⟨_, rfl⟩, .inr ⟨_, ⟨k + 1, by omega, HP.out.symm⟩, hJx3⟩⟩
      · rcases hor with ⟨rfl, hJ3, hk3⟩ | ⟨rfl, hJx3⟩
        · exact ⟨⟨k + 1, by omega, by go_num, by rw [HP.out]; exact hJ3, hba.trans hk3⟩, by simp [intOf]; omega⟩
        · cases hbb
    · obtain rfl : k = l.length := by omega
      gi_wp2
      go_end0
      exact ⟨⟨_, rfl⟩, .inl ⟨_, rfl, hJs⟩⟩
set_option maxRecDepth 100000 in
set_option maxHeartbeats 2000000 in
theorem back1_in (n : Nat) (hn : 1 ≤ n) (lp Bs n₀ b0 o cap : Nat) (a : Option Addr) (l : List Stp) (hl : l.length ≤ 1048576) (gr : Nat) (hBs : Bs < n₀ ∧ Bs ≠ gr) (hb0 : l ≠ [] → b0 < n₀ ∧ b0 ≠ gr) (J Jx : List (El l) → World → Prop)
    (hY : ∀ pre x W, J pre W → pre.length < l.length → YieldAt Fence.wide (n - 1) Try.prog lp (encA x) W fun e W' =>
      (e = .returned (.bool true) ∧ J (pre ++ [x]) W' ∧ KeepX n₀ gr W W') ∨ (e = .returned (.bool false) ∧ Jx (pre ++ [x]) W'))
    (W : World) (hc : W.cell? ⟨Bs, 0, none⟩ = some (.slice a l.length cap)) (hs : StepsAt W a b0 o l) (h0 : J [] W) :
    CallsIn Fence.wide n Try.prog 70 #[.func (.yield lp) #[] #[], .pointer (some ⟨Bs, 0, none⟩)] W fun e W' => (∃ v, e = .returned v) ∧
      ((∃ ys, ys = backE l l.length ∧ J ys W') ∨ (∃ pre, (∃ k, k ≤ l.length ∧ pre = backE l k) ∧ Jx pre W')) := by
  refine callsIn_of_wp Try.func70 rfl trivial ?_ rfl
  simp only [Try.ntmps70, List.size_toArray, List.length_cons, List.length_nil, Nat.reduceAdd, Nat.reduceSub, Array.replicate_succ, Array.replicate_zero, List.push_toArray, List.append_toArray, List.nil_append, List.cons_append]
  gi_wp2
  gi_loopw [3] (fun i wr => ∃ k : Nat, k ≤ l.length ∧ i = .int .i64 (((l.length - k : Nat) : Int) - 1) ∧ J (backE l k) wr ∧ KeepX n₀ gr W wr) (fun i _ => (intOf i + 1).toNat)
  case atStart => exact ⟨0, Nat.zero_le _, by rw [Nat.sub_zero], h0, KeepX.refl _ _ _⟩
  case round =>
    obtain ⟨k, hk, rfl, hJs, hnx⟩ := hrel
    have hcx := (hnx.cell (p := ⟨Bs, 0, none⟩) hBs.1 hBs.2).trans hc
    by_cases hlt : k < l.length
    · obtain ⟨t, htk⟩ : ∃ t, l[l.length - 1 - k]? = some t := ⟨l[l.length - 1 - k], List.getElem?_eq_getElem (by omega)⟩
      have hne : l ≠ [] := by intro e; subst e; simp at hlt
      obtain rfl := hs.here hne
      have hs' := hs.keepX hnx hb0
      obtain ⟨m, hm, hm2⟩ : ∃ m, l.length - 1 - k = m ∧ l.length - k = m + 1 := ⟨l.length - 1 - k, rfl, by omega⟩
      rw [hm] at htk
      have e0 : ((l.length - k : Nat) : Int) - 1 = (m : Int) := by omega
      rw [e0]
      obtain ⟨d0, d1, d2, d3, d4, d5, d6⟩ := hs'.seven htk
      have HP : Hid (backE l (k + 1) = backE l k ++ [⟨(m, t), htk⟩]) := backE_succ hm htk
      obtain ⟨fn, tmps, assign, body, hy, hR⟩ := hY _ ⟨(m, t), htk⟩ wr hJs (by rw [backE_length l k hk]; omega)
      dsimp only [encA] at hy
      have hR' := hR.mono (R' := fun e W' => ∃ bb : Bool, e = .returned (.bool bb) ∧ ((bb = true ∧ J (backE l k ++ [⟨(m, t), htk⟩]) W' ∧ KeepX n₀ gr wr W') ∨ (bb = false ∧ Jx (backE l k ++ [⟨(m, t), htk⟩]) W'))) (by
        rintro e W' (⟨h1, h2, h3⟩ | ⟨h1, h2⟩)
        · exact ⟨true, h1, .inl ⟨rfl, h2, h3⟩⟩
        · exact ⟨false, h1, .inr ⟨rfl, h2⟩⟩)
      clear hs' hY hR
      have k0 : (0 : Int) ≤ (m : Int) := by omega
      have k1 : (m : Int) < (l.length : Int) := by omega
      gi_wp2_with (refine hR'.mono ?_; rintro e W3 ⟨bb, rfl, hor⟩)
      all_goals rename_i hbb
      · refine bodyPost_ret (results_none rfl _ _ _) rfl ?_
        rcases hor with ⟨rfl, hJ3, hk3⟩ | ⟨rfl, hJx3⟩
        · cases hbb
        · exact ⟨⟨_, rfl⟩, .inr ⟨_, ⟨k + 1, by omega, HP.out.symm⟩, hJx3⟩⟩
      · rcases hor with ⟨rfl, hJ3, hk3⟩ | ⟨rfl, hJx3⟩
        · exact ⟨⟨k + 1, by omega, by rw [show l.length - (k + 1) = m by omega], by rw [HP.out]; exact hJ3, hnx.trans hk3⟩, by simp [intOf]⟩
        · cases hbb
    · obtain rfl : k = l.length := by omega
      rw [Nat.sub_self]
      gi_wp2
      go_end0
      exact ⟨⟨_, rfl⟩, .inl ⟨_, rfl, hJs⟩⟩

theorem all_any (a : Option Addr) (len cap : Nat) (w : World) :
    Calls Try.prog 34 #[.slice a len cap] w fun e w' => e = .returned (.func (.func 68) #[] #[.pointer (some ⟨w.heap.size, 0, none⟩)]) ∧ w' = w.alloc (.cells #[.slice a len cap] 25) := by
  go_enter Try.func34, Try.ntmps34
  go_wp2
  go_ret
  exact ⟨rfl, rfl⟩
theorem backw_any (a : Option Addr) (len cap : Nat) (w : World) :
    Calls Try.prog 36 #[.slice a len cap] w fun e w' => e = .returned (.func (.func 70) #[] #[.pointer (some ⟨w.heap.size, 0, none⟩)]) ∧ w' = w.alloc (.cells #[.slice a len cap] 25) := by
  go_enter Try.func36, Try.ntmps36
  go_wp2
  go_ret
  exact ⟨rfl, rfl⟩

theorem all_stops (n : Nat) (hn : 1 ≤ n) (Bs n₀ b0 o cap gr : Nat) (a : Option Addr) (l : List Stp) (hl : l.length ≤ 1048576) (w : World) (hBs : Bs < n₀ ∧ Bs ≠ gr) (hn₀ : n₀ ≤ w.heap.size)
    (hc : w.cell? ⟨Bs, 0, none⟩ = some (.slice a l.length cap)) (hs : StepsAt w a b0 o l) (hb0 : l ≠ [] → b0 < n₀ ∧ b0 ≠ gr) :
    SeqStopsK Fence.wide n Try.prog 68 #[.pointer (some ⟨Bs, 0, none⟩)] encA (KeepX n₀ gr) (fun ys => ys = allE l l.length) (fun pre => ∃ k, k ≤ l.length ∧ pre = allE l k) l.length w := fun lp J Jx W hW hJ _ hY h0 =>
  all1_in n hn lp Bs n₀ b0 o cap a l hl gr hBs hb0 J Jx (fun s A A' h hg => hJ s A A' none h hg (fun r e => by cases e)) hY W (Nat.le_trans hn₀ hW.size)
    ((hW.cell (p := ⟨Bs, 0, none⟩) (Nat.lt_of_lt_of_le hBs.1 hn₀)).trans hc) (hs.below hW (fun h => Nat.lt_of_lt_of_le (hb0 h).1 hn₀)) h0
theorem back_stops (n : Nat) (hn : 1 ≤ n) (Bs n₀ b0 o cap gr : Nat) (a : Option Addr) (l : List Stp) (hl : l.length ≤ 1048576) (w : World) (hBs : Bs < n₀ ∧ Bs ≠ gr) (hn₀ : n₀ ≤ w.heap.size)
    (hc : w.cell? ⟨Bs, 0, none⟩ = some (.slice a l.length cap)) (hs : StepsAt w a b0 o l) (hb0 : l ≠ [] → b0 < n₀ ∧ b0 ≠ gr) :
    SeqStopsK Fence.wide n Try.prog 70 #[.pointer (some ⟨Bs, 0, none⟩)] encA (KeepX n₀ gr) (fun ys => ys = backE l l.length) (fun pre => ∃ k, k ≤ l.length ∧ pre = backE l k) l.length w := fun lp J Jx W hW _ _ hY h0 =>
  back1_in n hn lp Bs n₀ b0 o cap a l hl gr hBs hb0 J Jx hY W
    ((hW.cell (p := ⟨Bs, 0, none⟩) (Nat.lt_of_lt_of_le hBs.1 hn₀)).trans hc) (hs.below hW (fun h => Nat.lt_of_lt_of_le (hb0 h).1 hn₀)) h0
end Go.Proofs.Ytfjlbgegjjdflaa

namespace Go.Proofs.Ytfjlbgegjjdflaa
open Go.RowKit

/-- What a step does to when it is entered, and when it is left: forward, or back. -/
def tightB (d : Bool) (q mo : Int) (e lf : Int × Int) : (Int × Int) × (Int × Int) :=
  if d then (e, (mxB lf.1 (e.1 + q), mnB lf.2 (e.2 + mo))) else ((mxB e.1 (lf.1 - mo), mnB e.2 (lf.2 - q)), lf)
def stayMost (s : Int) (t : Stp) : Int := if t.ho then 10000 else s
def tightR (d : Bool) (q s : Int) (r : List (Int × Int)) (x : Nat × Stp) : (Int × Int) × (Int × Int) := tightB d q (stayMost s x.2) (r.getD x.1 (0, 0)) (r.getD (x.1 + 1) (0, 0))
def rowStep (d : Bool) (q s : Int) (r : List (Int × Int)) (x : Nat × Stp) : List (Int × Int) := (r.set x.1 (tightR d q s r x).1).set (x.1 + 1) (tightR d q s r x).2
def okStep (d : Bool) (q s : Int) (r : List (Int × Int)) (x : Nat × Stp) : Bool := someB (tightR d q s r x).1 && someB (tightR d q s r x).2
/-- The row, and whether nothing was left empty. -/
def foldW (d : Bool) (q s : Int) {l : List Stp} (r : List (Int × Int)) (pre : List (El l)) : List (Int × Int) × Bool := pre.foldl (fun a x => (rowStep d q s a.1 x.1, a.2 && okStep d q s a.1 x.1)) (r, true)

theorem foldW_snoc (d : Bool) (q s : Int) {l : List Stp} (r : List (Int × Int)) (pre : List (El l)) (x : El l) :
    foldW d q s r (pre ++ [x]) = (rowStep d q s (foldW d q s r pre).1 x.1, (foldW d q s r pre).2 && okStep d q s (foldW d q s r pre).1 x.1) := by
  simp [foldW, List.foldl_append]
theorem fold_off (d : Bool) (q s : Int) {l : List Stp} : ∀ (post : List (El l)) (a : List (Int × Int) × Bool), a.2 = false → (post.foldl (fun a x => (rowStep d q s a.1 x.1, a.2 && okStep d q s a.1 x.1)) a).2 = false
  | [], _, h => h
  | x :: r, a, h => fold_off d q s r _ (by show (a.2 && _) = false; rw [h]; rfl)
theorem foldW_off (d : Bool) (q s : Int) {l : List Stp} (r : List (Int × Int)) (pre post : List (El l)) (h : (foldW d q s r pre).2 = false) : (foldW d q s r (pre ++ post)).2 = false := by
  unfold foldW
  rw [List.foldl_append]
  exact fold_off d q s post _ h

/-- A row of n + 1 spans, none of them empty, all within 0 and 10000. -/
structure GoodRow (n : Nat) (r : List (Int × Int)) : Prop where
  len : r.length = n + 1
  at_ : ∀ (i : Nat) (x : Int × Int), r[i]? = some x → 0 ≤ x.1 ∧ x.1 ≤ x.2 ∧ x.2 ≤ 10000
theorem GoodRow.getD {n : Nat} {r : List (Int × Int)} (h : GoodRow n r) {i : Nat} (hi : i ≤ n) : r[i]? = some (r.getD i (0, 0)) := by
  rw [List.getD_eq_getElem?_getD, List.getElem?_eq_getElem (by rw [h.len]; omega)]; rfl
theorem GoodRow.tight {n : Nat} {r : List (Int × Int)} (h : GoodRow n r) {d : Bool} {q s : Int} {x : Nat × Stp} (hx : x.1 < n) (hok : okStep d q s r x = true) :
    (0 ≤ (tightR d q s r x).1.1 ∧ (tightR d q s r x).1.1 ≤ (tightR d q s r x).1.2 ∧ (tightR d q s r x).1.2 ≤ 10000) ∧ (0 ≤ (tightR d q s r x).2.1 ∧ (tightR d q s r x).2.1 ≤ (tightR d q s r x).2.2 ∧ (tightR d q s r x).2.2 ≤ 10000) := by
  have h1 := h.at_ _ _ (h.getD (show x.1 ≤ n by omega))
  have h2 := h.at_ _ _ (h.getD (show x.1 + 1 ≤ n by omega))
  unfold okStep at hok
  simp only [someB, Bool.and_eq_true, decide_eq_true_eq] at hok
  unfold tightR tightB at *
  cases d with
  | true =>
    simp only [if_true] at *
    have m1 := mxB_le (r.getD (x.1 + 1) (0, 0)).1 ((r.getD x.1 (0, 0)).1 + q)
    have m2 := mnB_le (r.getD (x.1 + 1) (0, 0)).2 ((r.getD x.1 (0, 0)).2 + stayMost s x.2)
    omega
  | false =>
    simp only [Bool.false_eq_true, if_false] at *
    have m1 := mxB_le (r.getD x.1 (0, 0)).1 ((r.getD (x.1 + 1) (0, 0)).1 - stayMost s x.2)
    have m2 := mnB_le (r.getD x.1 (0, 0)).2 ((r.getD (x.1 + 1) (0, 0)).2 - q)
    omega
theorem GoodRow.step {n : Nat} {r : List (Int × Int)} (h : GoodRow n r) {d : Bool} {q s : Int} {x : Nat × Stp} (hx : x.1 < n) (hok : okStep d q s r x = true) : GoodRow n (rowStep d q s r x) where
  len := by unfold rowStep; rw [List.length_set, List.length_set]; exact h.len
  at_ i y hy := by
    obtain ⟨t1, t2⟩ := h.tight hx hok
    unfold rowStep at hy
    by_cases e2 : x.1 + 1 = i
    · subst e2
      rw [List.getElem?_set_self (by rw [List.length_set, h.len]; omega)] at hy
      cases hy
      exact t2
    · rw [List.getElem?_set_ne e2] at hy
      by_cases e1 : x.1 = i
      · subst e1
        rw [List.getElem?_set_self (by rw [h.len]; omega)] at hy
        cases hy
        exact t1
      · rw [List.getElem?_set_ne e1] at hy
        exact h.at_ i y hy

/-- The row when k steps are walked forward. -/
def mixL (q s fr b : Int) (l : List Stp) (k : Nat) : List (Int × Int) := (List.range (l.length + 1)).map fun i => if i ≤ k then fwdS q s fr b l i else (lowB fr l i, highB b l i)
theorem mixL_length (q s fr b : Int) (l : List Stp) (k : Nat) : (mixL q s fr b l k).length = l.length + 1 := by simp [mixL]
theorem mixL_get (q s fr b : Int) (l : List Stp) (k i : Nat) (h : i < l.length + 1) : (mixL q s fr b l k)[i]? = some (if i ≤ k then fwdS q s fr b l i else (lowB fr l i, highB b l i)) := by simp [mixL, h]
theorem mixL_zero (q s fr b : Int) (l : List Stp) : mixL q s fr b l 0 = winL fr b l (l.length + 1) := by
  unfold mixL winL
  apply List.map_congr_left
  intro i _
  by_cases h : i ≤ 0
  · have e : i = 0 := by omega
    subst e
    rfl
  · rw [if_neg h]
theorem mixL_all (q s fr b : Int) (l : List Stp) : mixL q s fr b l l.length = fwdL q s fr b l (l.length + 1) := by
  unfold mixL fwdL
  apply List.map_congr_left
  intro i hi
  rw [if_pos (by have := List.mem_range.1 hi; omega)]
theorem getD_of {r : List (Int × Int)} {i : Nat} {x : Int × Int} (h : r[i]? = some x) : r.getD i (0, 0) = x := by rw [List.getD_eq_getElem?_getD, h]; rfl
theorem stayMost_at {s : Int} {l : List Stp} {k : Nat} {t : Stp} (h : l[k]? = some t) : stayMost s t = mostB s l k := by
  unfold stayMost mostB; rw [show l.getD k .zero = t by rw [List.getD_eq_getElem?_getD, h]; rfl]

theorem mixL_tight {q s fr b : Int} {l : List Stp} {k : Nat} {t : Stp} (h : l[k]? = some t) : tightR true q s (mixL q s fr b l k) (k, t) = (fwdS q s fr b l k, fwdS q s fr b l (k + 1)) := by
  have hk : k < l.length := (List.getElem?_eq_some_iff.1 h).1
  have e1 := getD_of (mixL_get q s fr b l k k (by omega))
  have e2 := getD_of (mixL_get q s fr b l k (k + 1) (by omega))
  rw [if_pos (Nat.le_refl _)] at e1
  rw [if_neg (by omega)] at e2
  unfold tightR tightB
  simp only [if_true]
  rw [e1, e2, stayMost_at h]
  rfl
theorem mixL_step {q s fr b : Int} {l : List Stp} {k : Nat} {t : Stp} (h : l[k]? = some t) : rowStep true q s (mixL q s fr b l k) (k, t) = mixL q s fr b l (k + 1) := by
  have hk : k < l.length := (List.getElem?_eq_some_iff.1 h).1
  unfold rowStep
  rw [mixL_tight h]
  apply List.ext_getElem?
  intro i
  by_cases hi : i < l.length + 1
  · rw [mixL_get _ _ _ _ _ _ _ hi]
    by_cases e2 : k + 1 = i
    · subst e2
      rw [List.getElem?_set_self (by rw [List.length_set, mixL_length]; omega), if_pos (Nat.le_refl _)]
    · rw [List.getElem?_set_ne e2]
      by_cases e1 : k = i
      · subst e1
        rw [List.getElem?_set_self (by rw [mixL_length]; omega), if_pos (by omega)]
      · rw [List.getElem?_set_ne e1, mixL_get _ _ _ _ _ _ _ hi]
        by_cases h3 : i ≤ k
        · rw [if_pos h3, if_pos (by omega)]
        · rw [if_neg h3, if_neg (by omega)]
  · rw [List.getElem?_eq_none (by simp [mixL_length]; omega), List.getElem?_eq_none (by rw [mixL_length]; omega)]

theorem first_some {q s fr b : Int} {l : List Stp} (hp : pathB q s fr b l = true) (i : Nat) : 0 ≤ lowB fr l i ∧ lowB fr l i ≤ highB b l i ∧ highB b l i ≤ 10000 := by
  simp only [pathB, Bool.and_eq_true, decide_eq_true_eq] at hp
  obtain ⟨⟨⟨⟨_, _⟩, h3⟩, h4⟩, h5⟩ := hp
  have h3' := (inB_iff _ _ _).1 h3
  unfold lowB highB
  by_cases hk : i < l.length
  · rw [if_pos hk, if_pos hk]
    simp only [goodTo, List.all_eq_true, List.mem_range] at h5
    have := (Bool.and_eq_true_iff.1 (h5 i hk)).1
    simp only [stepB, decide_eq_true_eq] at this
    omega
  · rw [if_neg hk, if_neg hk]
    omega
theorem win_good {q s fr b : Int} {l : List Stp} (hp : pathB q s fr b l = true) : GoodRow l.length (winL fr b l (l.length + 1)) where
  len := by simp [winL]
  at_ i x hx := by
    simp only [winL, List.getElem?_map, Option.map_eq_some_iff] at hx
    obtain ⟨k, _, rfl⟩ := hx
    exact first_some hp k

theorem fwd_fold {q s fr b : Int} {l : List Stp} (hp : pathB q s fr b l = true) : ∀ k, k ≤ l.length →
    (foldW true q s (winL fr b l (l.length + 1)) (allE l k)).2 = fwdTo q s fr b l (k + 1) ∧ (fwdTo q s fr b l (k + 1) = true → (foldW true q s (winL fr b l (l.length + 1)) (allE l k)).1 = mixL q s fr b l k)
  | 0, _ => by
    refine ⟨?_, fun _ => by rw [mixL_zero]; rfl⟩
    have := first_some hp 0
    show true = _
    simp [fwdTo, someB, fwdS]
    exact decide_eq_true this.2.1
  | k + 1, hk => by
    obtain ⟨h1, h2⟩ := fwd_fold hp k (by omega)
    obtain ⟨t, ht⟩ : ∃ t, l[k]? = some t := ⟨l[k], List.getElem?_eq_getElem (by omega)⟩
    rw [allE_succ ht, foldW_snoc]
    cases hf : fwdTo q s fr b l (k + 1) with
    | false =>
      have e : fwdTo q s fr b l (k + 1 + 1) = false := by
        cases e : fwdTo q s fr b l (k + 1 + 1) with
        | false => rfl
        | true =>
          have : fwdTo q s fr b l (k + 1) = true := by
            simp only [fwdTo, List.all_eq_true, List.mem_range] at e ⊢
            exact fun i hi => e i (by omega)
          rw [this] at hf
          cases hf
      rw [h1, hf, e]
      exact ⟨rfl, fun h => by cases h⟩
    | true =>
      have hr := h2 hf
      have hs : someB (fwdS q s fr b l k) = true := by
        have := fwdTo_at hf (show k < k + 1 by omega)
        simpa [someB] using this
      rw [h1, hf, hr, fwdTo_succ hf]
      refine ⟨?_, fun _ => mixL_step ht⟩
      show (true && (someB (tightR true q s (mixL q s fr b l k) (k, t)).1 && someB (tightR true q s (mixL q s fr b l k) (k, t)).2)) = _
      rw [mixL_tight ht, hs]; rfl

theorem back_tight {q s fr b : Int} {l : List Stp} {k m : Nat} {t : Stp} (hk : k < l.length) (hm : l.length - (k + 1) = m) (h : l[m]? = some t) :
    tightR false q s (backL q s fr b l l.length k) (m, t) = (bwdS q s fr b l l.length (k + 1), bwdS q s fr b l l.length k) := by
  have e1 := getD_of (backL_now q s fr b l l.length k hk)
  have e2 := getD_of (backL_next q s fr b l l.length k hk)
  rw [hm] at e1 e2
  unfold tightR tightB
  simp only [Bool.false_eq_true, if_false]
  rw [e1, e2, stayMost_at h]
  simp only [bwdS]
  rw [hm]
theorem back_fold {q s fr b : Int} {l : List Stp} (hp : pathB q s fr b l = true) (hf : fwdTo q s fr b l (l.length + 1) = true) : ∀ k, k ≤ l.length →
    foldW false q s (fwdL q s fr b l (l.length + 1)) (backE l k) = (backL q s fr b l l.length k, true)
  | 0, _ => by rw [backL_zero]; rfl
  | k + 1, hk => by
    have ih := back_fold hp hf k (by omega)
    obtain ⟨m, hm⟩ : ∃ m, l.length - (k + 1) = m := ⟨_, rfl⟩
    obtain ⟨t, ht⟩ : ∃ t, l[m]? = some t := ⟨l[m], List.getElem?_eq_getElem (by omega)⟩
    rw [backE_succ (show l.length - 1 - k = m by omega) ht, foldW_snoc, ih]
    have hT := back_tight (q := q) (s := s) (fr := fr) (b := b) (show k < l.length by omega) hm ht
    have s1 := (bwd_in hp hf (k + 1) (by omega)).1
    have s2 := (bwd_in hp hf k (by omega)).1
    show (((backL q s fr b l l.length k).set m (tightR false q s (backL q s fr b l l.length k) (m, t)).1).set (m + 1) (tightR false q s (backL q s fr b l l.length k) (m, t)).2, true && (someB (tightR false q s (backL q s fr b l l.length k) (m, t)).1 && someB (tightR false q s (backL q s fr b l l.length k) (m, t)).2)) = _
    rw [hT, backL_succ q s fr b l l.length k (by omega), hm]
    have e2 := backL_next q s fr b l l.length k (by omega)
    rw [hm] at e2
    congr 1
    · apply List.ext_getElem?
      intro i
      by_cases e : m + 1 = i
      · subst e
        rw [List.getElem?_set_self (by rw [List.length_set, backL_length]; omega), List.getElem?_set_ne (by omega), e2]
      · rw [List.getElem?_set_ne e]
    · simp [someB]
      exact ⟨s1, s2⟩
theorem fwd_good {q s fr b : Int} {l : List Stp} (hp : pathB q s fr b l = true) (hf : fwdTo q s fr b l (l.length + 1) = true) : GoodRow l.length (fwdL q s fr b l (l.length + 1)) where
  len := by simp [fwdL]
  at_ i x hx := by
    simp only [fwdL, List.getElem?_map, Option.map_eq_some_iff] at hx
    obtain ⟨k, hk, rfl⟩ := hx
    have hk' : k < l.length + 1 := by
      have := List.mem_of_getElem? hk
      simpa using this
    have h1 := fwd_range hp k
    have h2 := fwdTo_at hf hk'
    omega
end Go.Proofs.Ytfjlbgegjjdflaa

namespace Go.Proofs.Ytfjlbgegjjdflaa
open Go.RowKit Go.Shelf

def WalkSaid : Prop := ∀ (d : Bool) (gf tf : Nat) (q s : Int) (l : List Stp) (g scap base Bs : Nat) (r : List (Int × Int)) (S : List (El l) → Prop) (Sp : List (El l) → Prop) (seqn : List (El l)) (w : World)
    (_hq : 1 ≤ q ∧ q ≤ 50) (_hs0 : 1 ≤ s ∧ s ≤ 50) (_hl : l.length ≤ 1048576) (_hr : GoodRow l.length r)
    (_hown : w.ownsRow base 38 2 (.slice (some ⟨g, 0, none⟩) (l.length + 1) scap) (l.length + 1) (spanCells r))
    (_hseq : ∀ W, Below w.heap.size w W → SeqStopsK Fence.wide 3 Try.prog gf #[.pointer (some ⟨Bs, 0, none⟩)] encA (KeepX w.heap.size g) S Sp l.length W)
    (_heg : ∀ args w, (callFunc gf args).run Try.prog w = .ok (.enter gf args) w) (_hS : ∀ xs, S xs → xs = seqn) (_hSp : ∀ xs, Sp xs → ∃ post, seqn = xs ++ post)
    (_htf : ∀ args w, (callFunc tf args).run Try.prog w = .ok (.enter tf args) w)
    (_hT : ∀ (mo : Int) (e lf : Int × Int) (w : World), (1 ≤ mo ∧ mo ≤ 10000) → (0 ≤ e.1 ∧ e.1 ≤ e.2 ∧ e.2 ≤ 10000) → (0 ≤ lf.1 ∧ lf.1 ≤ lf.2 ∧ lf.2 ≤ 10000) →
      Calls Try.prog tf #[.agg #[.int .i64 e.1, .int .i64 e.2], .agg #[.int .i64 lf.1, .int .i64 lf.2], .agg #[.int .i64 q, .int .i64 mo]] w
        fun x w' => x = .returned (.tuple #[.agg #[.int .i64 (tightB d q mo e lf).1.1, .int .i64 (tightB d q mo e lf).1.2], .agg #[.int .i64 (tightB d q mo e lf).2.1, .int .i64 (tightB d q mo e lf).2.2]]) ∧ Below w.heap.size w w'),
    Calls Try.prog 33 #[.agg #[.int .i64 q, .int .i64 s], .slice (some ⟨g, 0, none⟩) (l.length + 1) scap, .func (.func gf) #[] #[.pointer (some ⟨Bs, 0, none⟩)], .func (.func tf) #[] #[]] w
      fun e w' => e = .returned (.bool (foldW d q s r seqn).2) ∧ w.grownBy w' (some g) ∧ ((foldW d q s r seqn).2 = true → w'.ownsRow base 38 2 (.slice (some ⟨g, 0, none⟩) (l.length + 1) scap) (l.length + 1) (spanCells (foldW d q s r seqn).1))

theorem allE_prefix (l : List Stp) (k : Nat) : ∀ (m : Nat), ∃ post, allE l (k + m) = allE l k ++ post
  | 0 => ⟨[], by simp⟩
  | m + 1 => by
    obtain ⟨post, h⟩ := allE_prefix l k m
    exact ⟨post ++ _, by rw [← List.append_assoc, ← h]; rfl⟩
theorem backE_prefix (l : List Stp) (k : Nat) : ∀ (m : Nat), ∃ post, backE l (k + m) = backE l k ++ post
  | 0 => ⟨[], by simp⟩
  | m + 1 => by
    obtain ⟨post, h⟩ := backE_prefix l k m
    exact ⟨post ++ _, by rw [← List.append_assoc, ← h]; rfl⟩

theorem walkF_any (hW : WalkSaid) (q s : Int) (l : List Stp) (g scap base Bs b0 o cap : Nat) (a : Option Addr) (r : List (Int × Int)) (w : World)
    (hq : 1 ≤ q ∧ q ≤ 50) (hs0 : 1 ≤ s ∧ s ≤ 50) (hl : l.length ≤ 1048576) (hr : GoodRow l.length r)
    (hown : w.ownsRow base 38 2 (.slice (some ⟨g, 0, none⟩) (l.length + 1) scap) (l.length + 1) (spanCells r))
    (hBs : Bs < w.heap.size ∧ Bs ≠ g) (hc : w.cell? ⟨Bs, 0, none⟩ = some (.slice a l.length cap)) (hs : StepsAt w a b0 o l) (hb0 : l ≠ [] → b0 < w.heap.size ∧ b0 ≠ g) :
    Calls Try.prog 33 #[.agg #[.int .i64 q, .int .i64 s], .slice (some ⟨g, 0, none⟩) (l.length + 1) scap, .func (.func 68) #[] #[.pointer (some ⟨Bs, 0, none⟩)], .func (.func 35) #[] #[]] w
      fun e w' => e = .returned (.bool (foldW true q s r (allE l l.length)).2) ∧ w.grownBy w' (some g) ∧ ((foldW true q s r (allE l l.length)).2 = true → w'.ownsRow base 38 2 (.slice (some ⟨g, 0, none⟩) (l.length + 1) scap) (l.length + 1) (spanCells (foldW true q s r (allE l l.length)).1)) :=
  hW true _ _ q s l g scap base Bs r (fun ys => ys = allE l l.length) (fun pre => ∃ k, k ≤ l.length ∧ pre = allE l k) (allE l l.length) w hq hs0 hl hr hown
    (fun W hWb => all_stops 3 (by omega) Bs w.heap.size b0 o cap g a l hl W hBs hWb.size ((hWb.cell (p := ⟨Bs, 0, none⟩) hBs.1).trans hc) (hs.below hWb (fun h => (hb0 h).1)) hb0)
    (enters_of Try.func68 (by kernel_rfl) rfl) (fun _ h => h)
    (fun xs hx => by
      obtain ⟨k, hk, rfl⟩ := hx
      obtain ⟨post, hp⟩ := allE_prefix l k (l.length - k)
      rw [show k + (l.length - k) = l.length by omega] at hp
      exact ⟨post, hp⟩)
    (enters_of Try.func35 (by kernel_rfl) rfl)
    (fun mo e lf w hm he hf => tightL_any _ _ _ _ _ _ w (by omega) (by omega) (by omega) (by omega))

theorem walkB_any (hW : WalkSaid) (q s : Int) (l : List Stp) (g scap base Bs b0 o cap : Nat) (a : Option Addr) (r : List (Int × Int)) (w : World)
    (hq : 1 ≤ q ∧ q ≤ 50) (hs0 : 1 ≤ s ∧ s ≤ 50) (hl : l.length ≤ 1048576) (hr : GoodRow l.length r)
    (hown : w.ownsRow base 38 2 (.slice (some ⟨g, 0, none⟩) (l.length + 1) scap) (l.length + 1) (spanCells r))
    (hBs : Bs < w.heap.size ∧ Bs ≠ g) (hc : w.cell? ⟨Bs, 0, none⟩ = some (.slice a l.length cap)) (hs : StepsAt w a b0 o l) (hb0 : l ≠ [] → b0 < w.heap.size ∧ b0 ≠ g) :
    Calls Try.prog 33 #[.agg #[.int .i64 q, .int .i64 s], .slice (some ⟨g, 0, none⟩) (l.length + 1) scap, .func (.func 70) #[] #[.pointer (some ⟨Bs, 0, none⟩)], .func (.func 37) #[] #[]] w
      fun e w' => e = .returned (.bool (foldW false q s r (backE l l.length)).2) ∧ w.grownBy w' (some g) ∧ ((foldW false q s r (backE l l.length)).2 = true → w'.ownsRow base 38 2 (.slice (some ⟨g, 0, none⟩) (l.length + 1) scap) (l.length + 1) (spanCells (foldW false q s r (backE l l.length)).1)) :=
  hW false _ _ q s l g scap base Bs r (fun ys => ys = backE l l.length) (fun pre => ∃ k, k ≤ l.length ∧ pre = backE l k) (backE l l.length) w hq hs0 hl hr hown
    (fun W hWb => back_stops 3 (by omega) Bs w.heap.size b0 o cap g a l hl W hBs hWb.size ((hWb.cell (p := ⟨Bs, 0, none⟩) hBs.1).trans hc) (hs.below hWb (fun h => (hb0 h).1)) hb0)
    (enters_of Try.func70 (by kernel_rfl) rfl) (fun _ h => h)
    (fun xs hx => by
      obtain ⟨k, hk, rfl⟩ := hx
      obtain ⟨post, hp⟩ := backE_prefix l k (l.length - k)
      rw [show k + (l.length - k) = l.length by omega] at hp
      exact ⟨post, hp⟩)
    (enters_of Try.func37 (by kernel_rfl) rfl)
    (fun mo e lf w hm he hf => tightE_any _ _ _ _ _ _ w (by omega) (by omega) (by omega) (by omega))
end Go.Proofs.Ytfjlbgegjjdflaa

namespace Go.Proofs.Ytfjlbgegjjdflaa
open Go.RowKit

theorem box_grown {w wr w2 : World} {q s fr b : Int} {v : Value} {g : Nat} (h : BoxP w wr q s fr b v) (hg : wr.grownBy w2 (some g)) (hn : w.heap.size < g) : BoxP w w2 q s fr b v :=
  h.keep ((Below.refl _ _).grown hg h.lt (fun k e => by cases e; omega))

set_option maxRecDepth 20000 in
set_option maxHeartbeats 4000000 in
theorem spans_any (hW : WalkSaid) (hF : FollowSaid) : SpansSaid := by
  intro q s fr b a b0 o cap l w hl hs
  have hB0 := BoxP.new w q s fr b (.slice a l.length cap) 27
  cases hp : pathB q s fr b l with
  | false =>
    have e1 : flyB q s fr b l = false := by unfold flyB; rw [hp]; rfl
    have e2 : flyL q s fr b l = [] := by unfold flyL; rw [hp]; rfl
    rw [e1, e2]
    go_enter Try.func7, Try.ntmps7
    go_wp2_with fail
    refine (pathOk_any hF _ _ _ _ _ b0 o _ _ _ hl (hs.alloc _)).mono ?_
    rw [hp]
    rintro e w1 ⟨rfl, hb1⟩
    have hB1 := hB0.below hb1
    go_wp2
    go_ret2
    exact ⟨_, rfl, World.ownsRow_nil _ _ _ _, hB1.old⟩
  | true =>
    have e1 : flyB q s fr b l = fwdTo q s fr b l (l.length + 1) := by unfold flyB; rw [hp, span_fwd hp]; rfl
    have e2 : flyL q s fr b l = spansL q s fr b l := by unfold flyL; rw [hp]; rfl
    have kr := kind_range hp
    have hne : l ≠ [] := by have := path_len hp; intro e; subst e; simp at this
    have hfold := fwd_fold hp l.length (Nat.le_refl _)
    rw [e1, e2]
    go_enter Try.func7, Try.ntmps7
    go_wp2_with fail
    refine (pathOk_any hF _ _ _ _ _ b0 o _ _ _ hl (hs.alloc _)).mono ?_
    rw [hp]
    rintro e w1 ⟨rfl, hb1⟩
    have hB1 := hB0.below hb1
    have c0 := hB1.p0
    have c1 := hB1.p1
    have c2 := hB1.p2
    have c3 := hB1.p3
    have c4 := hB1.p4
    clear hb1 hB0
    go_wp2_with fail
    refine (winds_any _ _ _ _ _ b0 o _ _ _ hl (hs.below hB1.old hs.lt)).mono ?_
    rintro e w2 ⟨v, rfl, ho2, hb2⟩
    obtain ⟨g, scap, rfl, hg1, hg2⟩ := owns_some ho2 (by omega)
    have hB2 := hB1.below hb2
    have z1 := hB1.lt
    have z2 := hB2.lt
    clear c0 c1 c2 c3 c4 hb2 hB1
    have c0 := hB2.p0
    have c1 := hB2.p1
    have c2 := hB2.p2
    have c3 := hB2.p3
    have c4 := hB2.p4
    have hs2 := hs.below hB2.old hs.lt
    have hbw := hs.lt hne
    have hW1 := fun (W : World) (hW2 : Below w2.heap.size w2 W) (Bs : Nat) (hBs : w2.heap.size ≤ Bs ∧ Bs < W.heap.size) (hc : W.cell? ⟨Bs, 0, none⟩ = some (.slice a l.length cap)) =>
      walkF_any hW q s l g scap w1.heap.size Bs b0 o cap a (winL fr b l (l.length + 1)) W ⟨kr.1, by omega⟩ ⟨by omega, kr.2.2⟩ hl (win_good hp) (owns_below ho2 hW2) ⟨hBs.2, by omega⟩ hc (hs2.below hW2 hs2.lt) (fun _ => ⟨by have := hW2.size; omega, by omega⟩)
    have hal : Below w2.heap.size w2 (w2.drew.alloc (.cells #[.slice a l.length cap] 25)) := ((Below.refl w2.heap.size w2).drew).alloc (Nat.le_refl _) _
    have hsz : (w2.drew.alloc (.cells #[.slice a l.length cap] 25)).heap.size = w2.heap.size + 1 := World.size_alloc _ _
    have hcl : (w2.drew.alloc (.cells #[.slice a l.length cap] 25)).cell? ⟨w2.heap.size, 0, none⟩ = some (.slice a l.length cap) := (Boxed.new w2.drew 25 (.slice a l.length cap)).cell
    have HWK := hW1 _ hal w2.heap.size ⟨Nat.le_refl _, by omega⟩ hcl
    have HC : ∀ w4, (w2.drew.alloc (.cells #[.slice a l.length cap] 25)).grownBy w4 (some g) → ∀ j, w4.cell? ⟨w.heap.size, j, none⟩ = w2.cell? ⟨w.heap.size, j, none⟩ := fun w4 hg4 j =>
      (World.cell?_of_block (a := ⟨w.heap.size, j, none⟩) (hg4.block w.heap.size (by omega) (fun e => by cases e; omega))).trans (hal.cell (p := ⟨w.heap.size, j, none⟩) z2)
    clear hW1 hcl
    go_wp2
    go_region_held3 (fun w' => w'.cell? ⟨w.heap.size, 0, none⟩ = some (.int .i64 q) ∧ w'.cell? ⟨w.heap.size, 1, none⟩ = some (.int .i64 s) ∧ w'.cell? ⟨w.heap.size, 2, none⟩ = some (.slice a l.length cap) ∧ w'.cell? ⟨w.heap.size, 3, none⟩ = some (.int .i64 fr) ∧ w'.cell? ⟨w.heap.size, 4, none⟩ = some (.int .i64 b))
      (simp [go_sem, World.cell?_alloc_lt, *])
      (first
        | (go_at_call 34; refine (all_any _ _ _ _).mono ?_; rintro e w3 ⟨rfl, rfl⟩)
        | (go_at_call 33; refine HWK.mono ?_; rintro e w4 ⟨rfl, hg4, ho4⟩; have n0 := HC w4 hg4))
    have hB4 : BoxP w w4 q s fr b (.slice a l.length cap) := box_grown (hB2.below hal) hg4 (by omega)
    rw [hfold.1] at ho4
    clear c0 c1 c2 c3 c4 n0 HC HWK
    cases hf : fwdTo q s fr b l (l.length + 1) with
    | false =>
      have e3 : spansL q s fr b l = [] := by unfold spansL; rw [span_fwd hp, hf]; rfl
      go_wp2
      go_ret2
      exact ⟨_, by rw [hf]; rfl, by rw [e3]; exact World.ownsRow_nil _ _ _ _, hB4.old⟩
    | true =>
      have ho5 := ho4 hf
      rw [hfold.2 hf, mixL_all] at ho5
      have z4 := hB4.lt
      have zg : w2.heap.size + 1 ≤ w4.heap.size := by have := hg4.size; omega
      have hs4 : StepsAt w4 a b0 o l := hs.below hB4.old hs.lt
      have hbk := back_fold hp hf l.length (Nat.le_refl _)
      have HE : Hid (backL q s fr b l l.length l.length = spansL q s fr b l) := backL_all (by rw [span_fwd hp]; exact hf)
      clear ho4 hal hsz hg4 hB2 hs2
      have c0 := hB4.p0
      have c1 := hB4.p1
      have c2 := hB4.p2
      have c3 := hB4.p3
      have c4 := hB4.p4
      have hal : Below w4.heap.size w4 (w4.drew.alloc (.cells #[.slice a l.length cap] 25)) := ((Below.refl w4.heap.size w4).drew).alloc (Nat.le_refl _) _
      have hsz : (w4.drew.alloc (.cells #[.slice a l.length cap] 25)).heap.size = w4.heap.size + 1 := World.size_alloc _ _
      have hcl : (w4.drew.alloc (.cells #[.slice a l.length cap] 25)).cell? ⟨w4.heap.size, 0, none⟩ = some (.slice a l.length cap) := (Boxed.new w4.drew 25 (.slice a l.length cap)).cell
      have HWK := walkB_any hW q s l g scap w1.heap.size w4.heap.size b0 o cap a (fwdL q s fr b l (l.length + 1)) _ ⟨kr.1, by omega⟩ ⟨by omega, kr.2.2⟩ hl (fwd_good hp hf) (owns_below ho5 hal) ⟨by omega, by omega⟩ hcl (hs4.below hal hs4.lt) (fun _ => ⟨by omega, by omega⟩)
      rw [hbk] at HWK
      have HC : ∀ w5, (w4.drew.alloc (.cells #[.slice a l.length cap] 25)).grownBy w5 (some g) → ∀ j, w5.cell? ⟨w.heap.size, j, none⟩ = w4.cell? ⟨w.heap.size, j, none⟩ := fun w5 hg5 j =>
        (World.cell?_of_block (a := ⟨w.heap.size, j, none⟩) (hg5.block w.heap.size (by omega) (fun e => by cases e; omega))).trans (hal.cell (p := ⟨w.heap.size, j, none⟩) z4)
      clear hcl hbk
      go_wp2
      go_region_held3 (fun w' => w'.cell? ⟨w.heap.size, 0, none⟩ = some (.int .i64 q) ∧ w'.cell? ⟨w.heap.size, 1, none⟩ = some (.int .i64 s) ∧ w'.cell? ⟨w.heap.size, 2, none⟩ = some (.slice a l.length cap) ∧ w'.cell? ⟨w.heap.size, 3, none⟩ = some (.int .i64 fr) ∧ w'.cell? ⟨w.heap.size, 4, none⟩ = some (.int .i64 b))
        (simp [go_sem, World.cell?_alloc_lt, *])
        (first
          | (go_at_call 36; refine (backw_any _ _ _ _).mono ?_; rintro e w5 ⟨rfl, rfl⟩)
          | (go_at_call 33; refine HWK.mono ?_; rintro e w6 ⟨rfl, hg6, ho6⟩; have n0 := HC w6 hg6))
      have ho7 := ho6 trivial
      have hB6 : BoxP w w6 q s fr b (.slice a l.length cap) := box_grown (hB4.below hal) hg6 (by omega)
      clear c0 c1 c2 c3 c4 n0 HC HWK ho6
      go_wp2
      go_ret2
      refine ⟨_, by rw [hf]; rfl, ?_, hB6.old⟩
      have hlen : (spansL q s fr b l).length = l.length + 1 := by rw [← HE.out, backL_length]
      rw [hlen, ← HE.out]
      exact ⟨ho7.1, ho7.2.imp id fun ⟨g, cap, cur, h1, h2, h3⟩ => ⟨g, cap, cur, h1, by omega, h3⟩⟩
end Go.Proofs.Ytfjlbgegjjdflaa

namespace Go.Proofs.Ytfjlbgegjjdflaa
open Go.RowKit

section
variable {P : Program} {ops : Array Oper} {md : Region.Mode} {Q : Exit → Act → World → Prop} {w0 : World} {A : Nat → Bool} {tl : Nat} {Z : Array Value} {T : TypeId}

/-- A class of worlds in which all lies that lay, closed under what lays new blocks alone. -/
def Clsd (w0 : World) (X : World → Prop) : Prop := (∀ w, X w → Below w0.heap.size w0 w) ∧ ∀ w w', X w → Below w.heap.size w w' → X w'
/-- In each such class the operation leaves v. -/
def YA (P : Program) (ops : Array Oper) (w0 : World) (o : Oper) (v : Value) (a : Act) : Prop := ∀ X, Clsd w0 X → YieldsIn P ops X o v a
/-- The worlds in which these blocks have been laid. -/
structure CS (w0 : World) (Z : Array Value) (T : TypeId) (σ : List (Nat × Nat)) (w : World) : Prop where
  old : Below w0.heap.size w0 w
  at_ : ∀ p ∈ σ, w0.heap.size ≤ p.2 ∧ w.heap[p.2]? = some (.cells Z T (0, 0))
theorem CS.closed (σ : List (Nat × Nat)) : Clsd w0 (CS w0 Z T σ) :=
  ⟨fun _ h => h.old, fun _ _ h hb => ⟨h.old.trans (hb.mono h.old.size), fun p hp => ⟨(h.at_ p hp).1, (hb.block _ (lt_of_block (h.at_ p hp).2)).trans (h.at_ p hp).2⟩⟩⟩
theorem CS.alloc {σ : List (Nat × Nat)} {w : World} (h : CS w0 Z T σ w) (i : Nat) : CS w0 Z T ((i, w.heap.size) :: σ) (w.alloc (.cells Z T)) where
  old := h.old.alloc h.old.size _
  at_ p hp := by
    rcases List.mem_cons.1 hp with rfl | hp
    · exact ⟨h.old.size, heap_alloc_new w _⟩
    · exact ⟨(h.at_ p hp).1, (Below.heap_alloc w _ _ (lt_of_block (h.at_ p hp).2)).trans (h.at_ p hp).2⟩

/-- Whatever order is picked from here on. -/
def anyA (P : Program) (md : Region.Mode) (ops : Array Oper) (Q : Exit → Act → World → Prop) (w0 : World) (A : Nat → Bool) (tl : Nat) (Z : Array Value) (T : TypeId) : Nat → Array Bool → List (Nat × Nat) → Act → Prop
  | 0, _, _, _ => False
  | fuel + 1, listed, σ, a => Region.ready md ops listed ≠ [] ∧ ∀ i ∈ Region.ready md ops listed,
      (i = tl → ∀ w, CS w0 Z T σ w → wpOp P ops Q i (wpAny P md ops Q fuel (listed.setIfInBounds i true)) a w) ∧
      (i ≠ tl → A i = true → ∀ o B, ops[i]? = some o → w0.heap.size ≤ B → B ∉ σ.map (·.2) → anyA P md ops Q w0 A tl Z T fuel (listed.setIfInBounds i true) ((i, B) :: σ) (a.put o.dst (.pointer (some ⟨B, 0, none⟩)))) ∧
      (i ≠ tl → A i = false → ∃ o v, ops[i]? = some o ∧ YA P ops w0 o v a ∧ anyA P md ops Q w0 A tl Z T fuel (listed.setIfInBounds i true) σ (a.put o.dst v))

theorem any_of_A (hA : ∀ i o, A i = true → ops[i]? = some o → o.guard = none ∧ ∀ ρ w, (execOp ρ o).run P w = .ok (.value (.pointer (some ⟨w.heap.size, 0, none⟩))) (w.alloc (.cells Z T))) :
    ∀ (fuel : Nat) (listed : Array Bool) (σ : List (Nat × Nat)) (a : Act) (w : World), CS w0 Z T σ w → anyA P md ops Q w0 A tl Z T fuel listed σ a → wpAny P md ops Q fuel listed a w
  | 0, _, _, _, _, _, h => h.elim
  | fuel + 1, listed, σ, a, w, hw, h => ⟨fun e => absurd e h.1, fun i hi => by
      obtain ⟨h1, h2, h3⟩ := h.2 i hi
      by_cases e : i = tl
      · exact h1 e w hw
      · cases ha : A i with
        | true =>
          obtain ⟨_, o, ho, _⟩ := mem_ready.1 hi
          obtain ⟨hg, hr⟩ := hA i o ha ho
          have hk := h2 e ha o w.heap.size ho hw.old.size (fun hm => by
            obtain ⟨p, hp, hpe⟩ := List.mem_map.1 hm
            have := lt_of_block (hw.at_ p hp).2
            omega)
          refine wpOp_step ho (fun K' hK => ?_)
          rw [if_pos (by simp [Region.wanted, hg])]
          unfold Oper.wp
          rw [hr]
          exact hK _ _ (any_of_A hA fuel _ _ _ _ (hw.alloc i) hk)
        | false =>
          obtain ⟨o, v, ho, hy, hk⟩ := h3 e ha
          exact wpOp_of_qOp (C := CS w0 Z T σ) hw (fun a' w' hw' hk' => any_of_A hA fuel _ σ a' w' hw' hk') ((hy _ (CS.closed σ)).qOp ho hk)⟩

theorem YA.put {o oj : Oper} {v u : Value} {a : Act} (h : YA P ops w0 o v a) (hs : ∀ cs b, o.op ≠ .select cs b) (hap : ∀ d, oj.dst = some d → d ∉ o.looksAt ops) : YA P ops w0 o v (a.put oj.dst u) := fun X hX =>
  (h X hX).of_same (execOp_put o hs a oj.dst u hap) (wanted_put o a oj.dst u hap)
theorem YA.unput {o oi : Oper} {v u : Value} {a : Act} (h : YA P ops w0 o v (a.put oi.dst u)) (hs : ∀ cs b, o.op ≠ .select cs b) (hap : ∀ d, oi.dst = some d → d ∉ o.looksAt ops) : YA P ops w0 o v a := fun X hX =>
  (h X hX).of_same (execOp_put o hs a oi.dst u hap).symm (wanted_put o a oi.dst u hap).symm

/-- An operation that yields its value in each class, may come up now, and is apart from what does not wait for it, may be taken first. -/
theorem anyA_take {i x : Nat} {oi : Oper} {v : Value} (hi : ops[i]? = some oi) (hia : A i = false) (hit : i ≠ tl) (hsel : ∀ (j : Nat) (o : Oper) cs b, ops[j]? = some o → o.op ≠ .select cs b)
    (hx : x = i ∨ ∃ ox, ops[x]? = some ox ∧ ∃ e ∈ ox.after, Region.binds md e = true ∧ e.on = i)
    (hwait : ∀ oL, ops[tl]? = some oL → ∃ e ∈ oL.after, Region.binds md e = true ∧ e.on = x) :
    ∀ (fuel : Nat) (listed : Array Bool) (σ : List (Nat × Nat)) (a : Act), listed.getD x true = false →
      (∀ j oj, ops[j]? = some oj → j ≠ i → listed.getD j true = false → (∀ e ∈ oj.after, Region.binds md e = true → e.on ≠ i) → oi.apart ops oj = true) →
      i ∈ Region.ready md ops listed → YA P ops w0 oi v a →
      anyA P md ops Q w0 A tl Z T fuel (listed.setIfInBounds i true) σ (a.put oi.dst v) → anyA P md ops Q w0 A tl Z T (fuel + 1) listed σ a := by
  intro fuel
  induction fuel with
  | zero => intro _ _ _ _ _ _ _ H; exact H.elim
  | succ fuel ih =>
    intro listed σ a hxu hfree hr hy H
    have hun : listed.getD i true = false := (mem_ready.1 hr).1
    have clash : listed.getD i false = true → False := fun h1 => by
      rcases Nat.lt_or_ge i listed.size with h' | h'
      · simp [h'] at hun h1; rw [hun] at h1; cases h1
      · simp [Array.getElem?_eq_none h'] at h1
    have clashx : listed.getD x false = true → False := fun h1 => by
      rcases Nat.lt_or_ge x listed.size with h' | h'
      · simp [h'] at hxu h1; rw [hxu] at h1; cases h1
      · simp [Array.getElem?_eq_none h'] at h1
    refine ⟨fun e => (by rw [e] at hr; cases hr), fun j hj => ?_⟩
    obtain ⟨hjun, oj, hoj, hall⟩ := mem_ready.1 hj
    have hjl : j ≠ tl := fun e => by
      subst e
      obtain ⟨y, hy', hb, ho⟩ := hwait oj hoj
      exact clashx (by have := hall y hy' hb; rwa [ho] at this)
    refine ⟨fun e => absurd e hjl, ?_⟩
    by_cases hji : j = i
    · subst hji
      exact ⟨fun _ ha => absurd (hia.symm.trans ha) (by simp), fun _ _ => ⟨oi, v, hi, hy, H⟩⟩
    · have hnot : ∀ e ∈ oj.after, Region.binds md e = true → e.on ≠ i := fun e he hb heq => clash (by have := hall e he hb; rwa [heq] at this)
      obtain ⟨a1, a2, a3⟩ := Oper.apart_spec (hfree j oj hoj hji hjun hnot)
      have hjx : j ≠ x := fun e => by
        rcases hx with rfl | ⟨ox, hox, y, hy', hb, ho⟩
        · exact hji e
        · subst e
          rw [hoj] at hox
          cases hox
          exact hnot y hy' hb ho
      obtain ⟨_, h2, h3⟩ := H.2 j (ready_mono hj hji)
      have hxu' : (listed.setIfInBounds j true).getD x true = false := by rw [getD_set_ne true hjx]; exact hxu
      have hfree' : ∀ k ok, ops[k]? = some ok → k ≠ i → (listed.setIfInBounds j true).getD k true = false → (∀ e ∈ ok.after, Region.binds md e = true → e.on ≠ i) → oi.apart ops ok = true := fun k ok hk hki hku hkn => hfree k ok hk hki (by
        by_cases hjk : j = k
        · subst hjk; exact hjun
        · rw [getD_set_ne true hjk] at hku; exact hku) hkn
      refine ⟨fun _ ha o B ho hB hBσ => ?_, fun _ ha => ?_⟩
      · rw [hoj] at ho
        cases ho
        have := h2 hjl ha oj B hoj hB hBσ
        rw [Array.setIfInBounds_comm _ _ (Ne.symm hji), Act.put_comm a v _ a2] at this
        exact ih _ _ _ hxu' hfree' (ready_mono hr (Ne.symm hji)) (hy.put (fun cs b => hsel i oi cs b hi) a3) this
      · obtain ⟨o, u, ho, hyj, hk⟩ := h3 hjl ha
        rw [hoj] at ho
        cases ho
        rw [Array.setIfInBounds_comm _ _ (Ne.symm hji), Act.put_comm a v _ a2] at hk
        exact ⟨oj, u, hoj, hyj.unput (fun cs b => hsel j oj cs b hoj) a1, ih _ _ _ hxu' hfree' (ready_mono hr (Ne.symm hji)) (hy.put (fun cs b => hsel i oi cs b hi) a3) hk⟩

/-- The lexical walk, with values that hold in each class. -/
def wpQA (P : Program) (ops : Array Oper) (w0 : World) (Fin : Act → Prop) : List Oper → Act → Prop
  | [], a => Fin a
  | o :: rest, a => ∃ v, YA P ops w0 o v a ∧ wpQA P ops w0 Fin rest (a.put o.dst v)
/-- What is listed when n more are. -/
def listTo (listed : Array Bool) (k : Nat) : Nat → Array Bool
  | 0 => listed
  | n + 1 => listTo (listed.setIfInBounds k true) (k + 1) n
/-- The Bool over a region. -/
def lexA (md : Region.Mode) (ops : Array Oper) (A : Nat → Bool) (tl : Nat) : Nat → Nat → Array Bool → Bool
  | 0, _, _ => true
  | n + 1, k, listed => (Region.ready md ops listed).contains k && Region.free md ops listed k && (!(A k)) && (k != tl) && (waitsAt md ops tl k listed).isSome && lexA md ops A tl n (k + 1) (listed.setIfInBounds k true)

theorem anyA_lex (hs : Region.noSelect ops = true) (m : Nat) : ∀ (l : List Oper) (k : Nat) (listed : Array Bool) (a : Act), (∀ j, j < l.length → l[j]? = ops[k + j]?) → lexA md ops A tl l.length k listed = true →
    wpQA P ops w0 (anyA P md ops Q w0 A tl Z T m (listTo listed k l.length) []) l a → anyA P md ops Q w0 A tl Z T (l.length + m) listed [] a
  | [], _, _, a, _, _, h => by simpa [wpQA, listTo] using h
  | o :: l, k, listed, a, hl, hB, h => by
    have h0 : ops[k]? = some o := by simpa using (hl 0 (by simp)).symm
    simp only [List.length_cons, lexA, Bool.and_eq_true] at hB
    obtain ⟨⟨⟨⟨⟨hr, hf⟩, hk1⟩, hk2⟩, hwt⟩, hB'⟩ := hB
    obtain ⟨x, hxw⟩ := Option.isSome_iff_exists.1 hwt
    have hxp := List.find?_some hxw
    simp only [Bool.and_eq_true, Bool.not_eq_true'] at hxp
    obtain ⟨⟨hx1, hx2⟩, hx3⟩ := hxp
    obtain ⟨v, hy, hK⟩ := h
    have ih := anyA_lex hs m l (k + 1) (listed.setIfInBounds k true) (a.put o.dst v) (fun j hj => by have := hl (j + 1) (by simp; omega); simpa [Nat.add_assoc, Nat.add_comm 1 j] using this) hB' hK
    have e : (o :: l).length + m = (l.length + m) + 1 := by simp; omega
    rw [e]
    refine anyA_take (x := x) h0 (by simpa using hk1) (by simpa using hk2) (Region.noSelect_spec hs) ?_ (fun oL hoL => ?_) (l.length + m) listed [] a hx1 (Region.free_spec h0 hf) (by simpa using hr) hy ih
    · simp only [Bool.or_eq_true, beq_iff_eq] at hx2
      rcases hx2 with h1 | h1
      · exact Or.inl h1
      · right
        cases hox : ops[x]? with
        | none => rw [hox] at h1; cases h1
        | some ox =>
          rw [hox] at h1
          simp only [List.any_eq_true, Bool.and_eq_true, beq_iff_eq] at h1
          obtain ⟨e, he, h2, h3⟩ := h1
          exact ⟨ox, rfl, e, by simpa using he, h2, h3⟩
    · rw [hoL] at hx3
      simp only [List.any_eq_true, Bool.and_eq_true, beq_iff_eq] at hx3
      obtain ⟨e, he, h2, h3⟩ := hx3
      exact ⟨e, by simpa using he, h2, h3⟩
end
end Go.Proofs.Ytfjlbgegjjdflaa
