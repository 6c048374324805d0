/- Joined texts: NextSpec2, ILeaf, Impl, ImplPath, Follow, Follow2, NextImpl2, GoData, PbInS, PbName, PbBel, LkData, Copy, Copy2, Eq, LkLeft. -/
import Derived.WalkKit
import Derived.WalkSpells
import Derived.RangeFuncNested
import Derived.RangeFuncBound
import Derived.RangeFuncCalls
import Derived.RangeFuncLeaves
import Derived.Shelf.Abstract
import Derived.Shelf.RegionOpen
import Derived.OwnWalkIn
import Derived.TacticsInMore
import Derived.LoopNIn
import Derived.LoopIn
import Derived.Stop.RegionWithIn
import Derived.Lib.OthersKept
import Derived.Laws.RangeAny
import Derived.Deep.RegionHeld3
import Derived.Test.YtgkebobmfagklaaRows
import Derived.Test.YtgkebobmfagklaaJ02
import Derived.Test.YtgkebobmfagklaaJ01
namespace Go.Proofs.Ytgkebobmfagklaa
open Go.RowKit

theorem goS_no {q s fr b : Int} {l : List Stp} {zs : List Int} (h : goB q s fr b l zs = false) : goS q s fr b l zs = (0, 0) := by unfold goS; rw [h]; rfl
theorem goB_path {q s fr b : Int} {l : List Stp} {zs : List Int} (h : pathB q s fr b l = false) : goB q s fr b l zs = false := by unfold goB; rw [h]; rfl
theorem goB_long {q s fr b : Int} {l : List Stp} {zs : List Int} (h : l.length < zs.length) : goB q s fr b l zs = false := by
  unfold goB; rw [decide_eq_false (show ¬ zs.length ≤ l.length by omega)]; simp

theorem Span2.new (w : World) (t : TypeId) : (w.alloc (.cells #[.int .i64 0, .int .i64 0] t)).heap[w.heap.size]? = some (.cells #[.int .i64 0, .int .i64 0] t (0, 0)) := heap_alloc_new w _

set_option maxRecDepth 20000 in
set_option maxHeartbeats 1000000 in
theorem flyNextS_any (q s fr b : Int) (a : Option Addr) (b0 o cap : Nat) (l : List Stp) (c : Option Addr) (cb co ccap : Nat) (zs : List Int) (w : World) (hl : l.length ≤ 1048576) (hzl : zs.length ≤ 1048576) (hs : StepsAt w a b0 o l) (hz : IntsAt w c cb co zs) :
    Calls Try.prog 33 #[.agg #[.int .i64 q, .int .i64 s, .slice a l.length cap, .int .i64 fr, .int .i64 b], .slice c zs.length ccap] w
      fun e w' => e = .returned (.tuple #[.agg #[.int .i64 (goS q s fr b l zs).1, .int .i64 (goS q s fr b l zs).2], .bool (goB q s fr b l zs)]) ∧ Below w.heap.size w w' := by
  have hx0 := (PathAt.new w q s fr b (.slice a l.length cap)).keep ((Below.refl (w.heap.size + 1) (w.alloc (.cells #[.int .i64 q, .int .i64 s, .slice a l.length cap, .int .i64 fr, .int .i64 b] 34))).alloc (by simp) (.cells #[.int .i64 0, .int .i64 0] 61)) (by omega)
  have hr0 := Span2.new (w.alloc (.cells #[.int .i64 q, .int .i64 s, .slice a l.length cap, .int .i64 fr, .int .i64 b] 34)) 61
  simp only [World.size_alloc] at hr0
  have hbA : Below w.heap.size w ((w.alloc (.cells #[.int .i64 q, .int .i64 s, .slice a l.length cap, .int .i64 fr, .int .i64 b] 34)).alloc (.cells #[.int .i64 0, .int .i64 0] 61)) := ((Below.refl w.heap.size w).alloc (Nat.le_refl _) _).alloc (by simp) _
  go_enter Try.func33, Try.ntmps33
  go_wp2_with fail
  refine (pathS_any _ _ _ _ _ b0 o _ _ _ hl ((hs.alloc _).alloc _)).mono ?_
  rintro e w1 ⟨rfl, hb1⟩
  have hx1 := hx0.keep hb1 (by simp; omega)
  have hr1 := blk2_kept hr0 hb1
  have hb01 := hbA.trans (hb1.mono (by simp only [World.size_alloc]; omega))
  have sz1 : w.heap.size + 1 + 1 ≤ w1.heap.size := by simpa using hb1.size
  clear hx0 hr0 hb1
  obtain ⟨⟨p0, p1, p2, p3, p4⟩, pf⟩ := hx1.cells
  obtain ⟨r0, r1, rf⟩ := blk2 hr1
  cases hp : pathB q s fr b l with
  | false =>
    have e1 := goB_path (zs := zs) hp
    have E : Hid (goS q s fr b l zs = (0, 0) ∧ goB q s fr b l zs = false) := ⟨goS_no e1, e1⟩
    clear e1
    go_wp2
    refine bodyPost_ret (v := .tuple #[.agg #[.int .i64 0, .int .i64 0], .bool false]) (by simp [results, Try.results33, go_sem, *]) rfl ⟨by rw [E.out.1, E.out.2], ?_⟩
    iterate 2 (refine Below.setCell ?_ (by simp <;> omega) _)
    exact hb01
  | true =>
    by_cases hlen : zs.length ≤ l.length
    · have hpl := path_len hp
      obtain ⟨e1, e2⟩ := held_go hp hlen
      have n1 : ¬ ((l.length : Int) < (zs.length : Int)) := by omega
      have hs1 := hs.below hb01 hs.lt
      have hz1 := hz.below hb01 hz.lt
      go_wp2_with fail
      refine (heldS_any _ _ _ _ _ b0 o _ _ _ cb co _ _ _ hpl.1 hl hs1 hz1 hlen).mono ?_
      rintro e w2 ⟨g, gcap, rfl, hown2, hb2⟩
      have hs2 := steps_owned hown2
      have hr2 := blk2_kept hr1 hb2
      have hb02 := hb01.trans (hb2.mono (by omega))
      have hW := held_wide (Wide.of hp) zs hlen
      have hC := spansS_wide q s fr b (some ⟨g, 0, none⟩) g 0 gcap (heldL l zs zs.length) w2 hs2 hW
      rw [heldL_length, e1] at hC
      clear hx1 hr1 hb01 hb2 p0 p1 p2 p3 p4 pf r0 r1 rf hs1 hz1 hown2
      go_wp2_with fail
      refine hC.mono ?_
      rintro e w3 ⟨v, rfl, hown3, hb3⟩
      have hr3 := blk2_kept hr2 hb3
      have sz2 := hb02.size
      have sz3 := hb3.size
      have hb03 := hb02.trans (hb3.mono hb02.size)
      obtain ⟨r0, r1, rf⟩ := blk2 hr3
      clear hC hs2 hr2 hb02 hb3
      cases hg : goB q s fr b l zs with
      | false =>
        have E : Hid (goS q s fr b l zs = (0, 0) ∧ goB q s fr b l zs = false) := ⟨goS_no hg, hg⟩
        clear e1 e2
        go_wp2
        refine bodyPost_ret (v := .tuple #[.agg #[.int .i64 0, .int .i64 0], .bool false]) (by simp [results, Try.results33, go_sem, *]) rfl ⟨by rw [E.out.1, E.out.2], ?_⟩
        iterate 2 (refine Below.setCell ?_ (by simp <;> omega) _)
        exact hb03
      | true =>
        have hget := e2 hg
        have hL : (spansL q s fr b (heldL l zs zs.length)).length = l.length + 1 := by
          rw [hg] at e1
          unfold spansL
          rw [if_pos e1, heldL_length]
          simp
        rw [hL] at hown3
        obtain ⟨g3, c3, rfl, hg3, hg3'⟩ := owns_some hown3 (by omega)
        have x0 := (hown3.cellAt (zs.length * 2) (by omega)).trans (spanCells_get _ _ _ hget).1
        have x1 := (hown3.cellAt (zs.length * 2 + 1) (by omega)).trans (spanCells_get _ _ _ hget).2
        obtain ⟨⟨y0, y1⟩, hy⟩ : ∃ y, goS q s fr b l zs = y := ⟨_, rfl⟩
        rw [hy] at x0 x1
        have E : Hid (goS q s fr b l zs = (y0, y1) ∧ goB q s fr b l zs = true) := ⟨hy, hg⟩
        have m0 : (0 : Int) ≤ (zs.length : Int) := by omega
        have m1 : (zs.length : Int) < (l.length : Int) + 1 := by omega
        clear hget e1 e2 hy hown3 n1
        go_wp2
        refine bodyPost_ret (v := .tuple #[.agg #[.int .i64 y0, .int .i64 y1], .bool true]) (by simp [results, Try.results33, go_sem, *]) rfl ⟨by rw [E.out.1, E.out.2], ?_⟩
        iterate 2 (refine Below.setCell ?_ (by simp <;> omega) _)
        exact hb03
    · have e1 := goB_long (q := q) (s := s) (fr := fr) (b := b) (show l.length < zs.length by omega)
      have E : Hid (goS q s fr b l zs = (0, 0) ∧ goB q s fr b l zs = false) := ⟨goS_no e1, e1⟩
      clear e1
      have n1 : (l.length : Int) < (zs.length : Int) := by omega
      go_wp2
      refine bodyPost_ret (v := .tuple #[.agg #[.int .i64 0, .int .i64 0], .bool false]) (by simp [results, Try.results33, go_sem, *]) rfl ⟨by rw [E.out.1, E.out.2], ?_⟩
      iterate 2 (refine Below.setCell ?_ (by simp <;> omega) _)
      exact hb01
end Go.Proofs.Ytgkebobmfagklaa

namespace Go.Proofs.Ytgkebobmfagklaa
open Go.RowKit

theorem onSide_any (n : Int) (w : World) :
    Calls Try.prog 86 #[.int .i64 n] w fun e w' => e = .returned (.bool (inB n 0 15)) ∧ w' = w := by
  by_cases h1 : 0 ≤ n
  · go_enter Try.func86, Try.ntmps86
    go_wp2
    go_ret
    have e1 : decide (n < 16) = inB n 0 15 := by by_cases h : n < 16 <;> simp [inB, h, h1] <;> omega
    exact ⟨by rw [← e1]; rfl, rfl⟩
  · have h1' : decide (0 ≤ n) = false := by simpa using h1
    go_enter Try.func86, Try.ntmps86
    go_wp2
    go_ret
    exact ⟨by simp [inB, h1'], rfl⟩

theorem ordered_any (a b c d : Int) (w : World) :
    Calls Try.prog 85 #[.int .i64 a, .int .i64 b, .int .i64 c, .int .i64 d] w fun e w' => e = .returned (.bool (ordB a b c d)) ∧ w' = w := by
  by_cases h1 : a ≤ b
  · by_cases h2 : b ≤ c
    · go_enter Try.func85, Try.ntmps85
      go_wp2
      go_ret
      exact ⟨by simp [ordB, h1, h2], rfl⟩
    · have e1 : ordB a b c d = false := by simp [ordB]; omega
      rw [e1]
      clear e1
      go_enter Try.func85, Try.ntmps85
      go_wp2
      go_ret
      exact ⟨rfl, rfl⟩
  · have e1 : ordB a b c d = false := by simp [ordB]; omega
    rw [e1]
    clear e1
    go_enter Try.func85, Try.ntmps85
    go_wp2
    go_ret
    exact ⟨rfl, rfl⟩

theorem isBeside_any (a b : Int) (w : World) :
    Calls Try.prog 88 #[.int .i64 a, .int .i64 b] w fun e w' => e = .returned (.bool (inB (wrap64 (a - b)) (-1) 1)) ∧ w' = w := by
  by_cases h1 : -1 ≤ wrap64 (a - b)
  · go_enter Try.func88, Try.ntmps88
    go_wp2
    go_ret
    exact ⟨by simp [inB, h1], rfl⟩
  · have h1' : decide (-1 ≤ wrap64 (a - b)) = false := by simpa using h1
    go_enter Try.func88, Try.ntmps88
    go_wp2
    go_ret
    exact ⟨by simp [inB, h1'], rfl⟩

theorem stepOk_any (x y lo hi fr b : Int) (ho : Bool) (w : World) :
    Calls Try.prog 82 #[.agg #[.int .i64 x, .int .i64 y, .int .i64 lo, .int .i64 hi, .int .i64 fr, .int .i64 b, .bool ho]] w fun e w' => e = .returned (.bool (stepB x y lo hi fr b)) ∧ Below w.heap.size w w' := by
  have hb := (Below.refl w.heap.size w).alloc (Nat.le_refl _) (.cells #[.int .i64 x, .int .i64 y, .int .i64 lo, .int .i64 hi, .int .i64 fr, .int .i64 b, .bool ho] 75)
  cases h1 : inB x 0 15 with
  | false =>
    have e1 : stepB x y lo hi fr b = false := by simp [stepB, inB] at *; omega
    rw [e1]; clear e1
    go_enter Try.func82, Try.ntmps82
    go_wp2_with (first | (go_at_call 86; refine (onSide_any _ _).mono ?_; rintro e w' ⟨rfl, rfl⟩) | (go_at_call 85; refine (ordered_any _ _ _ _ _).mono ?_; rintro e w' ⟨rfl, rfl⟩))
    go_ret
    exact ⟨rfl, hb⟩
  | true =>
  cases h2 : inB y 0 15 with
  | false =>
    have e1 : stepB x y lo hi fr b = false := by simp [stepB, inB] at *; omega
    rw [e1]; clear e1
    go_enter Try.func82, Try.ntmps82
    go_wp2_with (first | (go_at_call 86; refine (onSide_any _ _).mono ?_; rintro e w' ⟨rfl, rfl⟩) | (go_at_call 85; refine (ordered_any _ _ _ _ _).mono ?_; rintro e w' ⟨rfl, rfl⟩))
    go_ret
    exact ⟨rfl, hb⟩
  | true =>
  cases h3 : ordB 0 lo hi 6 with
  | false =>
    have e1 : stepB x y lo hi fr b = false := by simp [stepB, inB, ordB] at *; omega
    rw [e1]; clear e1
    go_enter Try.func82, Try.ntmps82
    go_wp2_with (first | (go_at_call 86; refine (onSide_any _ _).mono ?_; rintro e w' ⟨rfl, rfl⟩) | (go_at_call 85; refine (ordered_any _ _ _ _ _).mono ?_; rintro e w' ⟨rfl, rfl⟩))
    go_ret
    exact ⟨rfl, hb⟩
  | true =>
    have e1 : stepB x y lo hi fr b = ordB 0 fr b 10000 := by
      rw [Bool.eq_iff_iff]; simp [stepB, inB, ordB] at *; omega
    rw [e1]; clear e1
    go_enter Try.func82, Try.ntmps82
    go_wp2_with (first | (go_at_call 86; refine (onSide_any _ _).mono ?_; rintro e w' ⟨rfl, rfl⟩) | (go_at_call 85; refine (ordered_any _ _ _ _ _).mono ?_; rintro e w' ⟨rfl, rfl⟩))
    go_ret
    exact ⟨rfl, hb⟩

theorem sharesLevel_any (x y lo hi fr b x' y' lo' hi' fr' b' : Int) (ho ho' : Bool) (w : World) :
    Calls Try.prog 89 #[.agg #[.int .i64 x, .int .i64 y, .int .i64 lo, .int .i64 hi, .int .i64 fr, .int .i64 b, .bool ho], .agg #[.int .i64 x', .int .i64 y', .int .i64 lo', .int .i64 hi', .int .i64 fr', .int .i64 b', .bool ho']] w
      fun e w' => e = .returned (.bool (levB lo hi lo' hi')) ∧ Below w.heap.size w w' := by
  have hb := ((Below.refl w.heap.size w).alloc (Nat.le_refl _) (.cells #[.int .i64 x, .int .i64 y, .int .i64 lo, .int .i64 hi, .int .i64 fr, .int .i64 b, .bool ho] 75)).alloc (by simp) (.cells #[.int .i64 x', .int .i64 y', .int .i64 lo', .int .i64 hi', .int .i64 fr', .int .i64 b', .bool ho'] 75)
  by_cases h1 : lo ≤ hi'
  · go_enter Try.func89, Try.ntmps89
    go_wp2
    go_ret
    exact ⟨by simp [levB, h1], hb⟩
  · have h1' : decide (lo ≤ hi') = false := by simpa using h1
    go_enter Try.func89, Try.ntmps89
    go_wp2
    go_ret
    exact ⟨by simp [levB, h1'], hb⟩

set_option maxHeartbeats 1000000 in
theorem follows_any (x y lo hi fr b x' y' lo' hi' fr' b' : Int) (ho ho' : Bool) (w : World) :
    Calls Try.prog 84 #[.agg #[.int .i64 x, .int .i64 y, .int .i64 lo, .int .i64 hi, .int .i64 fr, .int .i64 b, .bool ho], .agg #[.int .i64 x', .int .i64 y', .int .i64 lo', .int .i64 hi', .int .i64 fr', .int .i64 b', .bool ho']] w
      fun e w' => e = .returned (.bool (folB x y lo hi x' y' lo' hi')) ∧ Below w.heap.size w w' := by
  have hb := ((Below.refl w.heap.size w).alloc (Nat.le_refl _) (.cells #[.int .i64 x, .int .i64 y, .int .i64 lo, .int .i64 hi, .int .i64 fr, .int .i64 b, .bool ho] 75)).alloc (by simp) (.cells #[.int .i64 x', .int .i64 y', .int .i64 lo', .int .i64 hi', .int .i64 fr', .int .i64 b', .bool ho'] 75)
  cases h1 : (x == x') <;> cases h2 : (y == y') <;> cases h3 : inB (wrap64 (x - x')) (-1) 1 <;> cases h4 : inB (wrap64 (y - y')) (-1) 1
  all_goals
    go_enter Try.func84, Try.ntmps84
    go_wp2_with (first | (go_at_call 88; refine (isBeside_any _ _ _).mono ?_; rintro e w' ⟨rfl, rfl⟩) | (go_at_call 89; refine (sharesLevel_any x y lo hi fr b x' y' lo' hi' fr' b' ho ho' _).mono ?_; rintro e w1 ⟨rfl, hb1⟩))
    go_ret
    first
      | exact ⟨by simp [folB, h1, h2, h3, h4], hb⟩
      | exact ⟨by simp [folB, h1, h2, h3, h4], hb.trans (hb1.mono (by simp; omega))⟩
end Go.Proofs.Ytgkebobmfagklaa

namespace Go.Proofs.Ytgkebobmfagklaa
open Go.RowKit

theorem kindM_any (q s : Int) (w : World) :
    Calls Try.prog 81 #[.agg #[.int .i64 q, .int .i64 s]] w fun e w' => e = .returned (.bool (kindB q s)) ∧ Below w.heap.size w w' := by
  have hb := (Below.refl w.heap.size w).alloc (Nat.le_refl _) (.cells #[.int .i64 q, .int .i64 s] 31)
  by_cases h1 : 1 ≤ q
  · by_cases h2 : q ≤ s
    · go_enter Try.func81, Try.ntmps81
      go_wp2
      go_ret
      exact ⟨by simp [kindB, h1, h2], hb⟩
    · have e1 : kindB q s = false := by simp [kindB]; omega
      go_enter Try.func81, Try.ntmps81
      go_wp2
      go_ret
      exact ⟨by first | rfl | (rw [e1]; rfl), hb⟩
  · have e1 : kindB q s = false := by simp [kindB]; omega
    go_enter Try.func81, Try.ntmps81
    go_wp2
    go_ret
    exact ⟨by first | rfl | (rw [e1]; rfl), hb⟩

theorem kindIsOk_any (q s fr b : Int) (a : Option Addr) (n cap : Nat) (w : World) :
    Calls Try.prog 71 #[.agg #[.int .i64 q, .int .i64 s, .slice a n cap, .int .i64 fr, .int .i64 b]] w fun e w' => e = .returned (.bool (kindB q s)) ∧ Below w.heap.size w w' := by
  go_enter Try.func71, Try.ntmps71
  go_wp2_with (go_at_call 81; refine (kindM_any _ _ _).mono ?_; rintro e w1 ⟨rfl, hb1⟩)
  go_ret
  exact ⟨rfl, ((Below.refl _ _).alloc (Nat.le_refl _) _).trans (hb1.mono (by simp))⟩

theorem stepCount_any (q s fr b : Int) (a : Option Addr) (n cap : Nat) (w : World) (hn : n ≤ 1048576) :
    Calls Try.prog 72 #[.agg #[.int .i64 q, .int .i64 s, .slice a n cap, .int .i64 fr, .int .i64 b]] w fun e w' => e = .returned (.bool (inB n 1 40)) ∧ Below w.heap.size w w' := by
  have hb := (Below.refl w.heap.size w).alloc (Nat.le_refl _) (.cells #[.int .i64 q, .int .i64 s, .slice a n cap, .int .i64 fr, .int .i64 b] 34)
  by_cases h1 : (1 : Int) ≤ (n : Int)
  · have e1 : inB n 1 40 = decide ((n : Int) ≤ 40) := by simp [inB, h1]
    go_enter Try.func72, Try.ntmps72
    go_wp2
    go_ret
    exact ⟨by first | rfl | (rw [e1]; rfl), hb⟩
  · have e1 : inB n 1 40 = false := by simp [inB]; omega
    go_enter Try.func72, Try.ntmps72
    go_wp2
    go_ret
    exact ⟨by first | rfl | (rw [e1]; rfl), hb⟩

theorem endIsOk_any (q s fr b : Int) (a : Option Addr) (n cap : Nat) (w : World) :
    Calls Try.prog 75 #[.agg #[.int .i64 q, .int .i64 s, .slice a n cap, .int .i64 fr, .int .i64 b]] w fun e w' => e = .returned (.bool (ordB 0 fr b 10000)) ∧ Below w.heap.size w w' := by
  go_enter Try.func75, Try.ntmps75
  go_wp2_with (go_at_call 85; refine (ordered_any _ _ _ _ _).mono ?_; rintro e w' ⟨rfl, rfl⟩)
  go_ret
  exact ⟨rfl, (Below.refl _ _).alloc (Nat.le_refl _) _⟩

set_option maxHeartbeats 1000000 in
theorem stepsAreOk_any (q s fr b : Int) (a : Option Addr) (b0 o cap : Nat) (l : List Stp) (w : World) (hl : l.length ≤ 1048576) (hs : StepsAt w a b0 o l) :
    Calls Try.prog 73 #[.agg #[.int .i64 q, .int .i64 s, .slice a l.length cap, .int .i64 fr, .int .i64 b]] w fun e w' => e = .returned (.bool (okTo l l.length)) ∧ Below w.heap.size w w' := by
  go_enter Try.func73, Try.ntmps73
  go_wp2
  go_loopw [8] (fun v wr => ∃ k : Nat, k ≤ l.length ∧ v = .int .i64 k ∧ Below w.heap.size w wr ∧ okTo l k = true) (fun v _ => l.length - (intOf v).toNat)
  case atStart => exact ⟨0, Nat.zero_le _, rfl, (Below.refl _ _).alloc (Nat.le_refl _) _, rfl⟩
  case round =>
    obtain ⟨k, hk, rfl, hb, hgood⟩ := hrel
    have HG : Hid (okTo l k = true) := hgood
    clear hgood
    by_cases hlt : k < l.length
    · obtain ⟨t, htk⟩ : ∃ t, l[k]? = some t := ⟨l[k], List.getElem?_eq_getElem hlt⟩
      have hne : l ≠ [] := by intro e; subst e; simp at hlt
      obtain rfl := hs.here hne
      have hbw := hs.lt hne
      obtain ⟨d0, d1, d2, d3, d4, d5, d6⟩ := (hs.below hb (fun _ => hbw)).seven htk
      have HT : Hid (l.getD k .zero = t) := by show _ = _; simp [List.getD, htk]
      clear htk
      have HE : Hid (okS l k = stepB t.x t.y t.lo t.hi t.fr t.by_) := by show _ = _; unfold okS; rw [HT.out]
      cases hok : stepB t.x t.y t.lo t.hi t.fr t.by_ with
      | false =>
        have G1 : Hid (okTo l l.length = false) := all_not hlt (HE.out.trans hok)
        go_wp2_with (go_at_call 82; refine (stepOk_any _ _ _ _ _ _ _ _).mono ?_; rintro e w2 ⟨rfl, hb2⟩)
        go_ret
        exact ⟨by rw [G1.out]; rfl, (hb.alloc hb.size _).trans (hb2.mono (by have := hb.size; simp; omega))⟩
      | true =>
        have G1 : Hid (okTo l (k + 1) = true) := by show _ = _; unfold okTo; rw [all_succ]; have := HG.out; unfold okTo at this; rw [this, HE.out, hok]; rfl
        go_wp2_with (go_at_call 82; refine (stepOk_any _ _ _ _ _ _ _ _).mono ?_; rintro e w2 ⟨rfl, hb2⟩)
        go_roundw
        case rel => exact ⟨k + 1, by omega, by go_num, (hb.alloc hb.size _).trans (hb2.mono (by have := hb.size; simp; omega)), G1.out⟩
        case measure => simp [intOf]; omega
    · obtain rfl : k = l.length := by omega
      go_wp2
      go_ret
      exact ⟨by rw [HG.out]; rfl, hb⟩
end Go.Proofs.Ytgkebobmfagklaa

namespace Go.Proofs.Ytgkebobmfagklaa
open Go.RowKit

/-- What is asked of the check of two steps. -/
def FollowSaid : Prop := ∀ (q s fr b : Int) (a : Option Addr) (b0 o cap : Nat) (l : List Stp) (w : World), l.length ≤ 1048576 → StepsAt w a b0 o l →
    Calls Try.prog 74 #[.agg #[.int .i64 q, .int .i64 s, .slice a l.length cap, .int .i64 fr, .int .i64 b]] w fun e w' => e = .returned (.bool (folTo l (l.length - 1))) ∧ Below w.heap.size w w'

/-- The two blocks that the call itself laid: the path, and the list of checks. -/
structure Laid2 (w wr : World) (q s fr b : Int) (v : Value) : Prop where
  old : Below w.heap.size w wr
  size : w.heap.size + 2 ≤ wr.heap.size
  p0 : wr.cell? ⟨w.heap.size, 0, none⟩ = some (.int .i64 q)
  p1 : wr.cell? ⟨w.heap.size, 1, none⟩ = some (.int .i64 s)
  p2 : wr.cell? ⟨w.heap.size, 2, none⟩ = some v
  p3 : wr.cell? ⟨w.heap.size, 3, none⟩ = some (.int .i64 fr)
  p4 : wr.cell? ⟨w.heap.size, 4, none⟩ = some (.int .i64 b)
  f0 : wr.cell? ⟨w.heap.size + 1, 0, none⟩ = some (.func (.func 71) #[] #[])
  f1 : wr.cell? ⟨w.heap.size + 1, 1, none⟩ = some (.func (.func 72) #[] #[])
  f2 : wr.cell? ⟨w.heap.size + 1, 2, none⟩ = some (.func (.func 73) #[] #[])
  f3 : wr.cell? ⟨w.heap.size + 1, 3, none⟩ = some (.func (.func 74) #[] #[])
  f4 : wr.cell? ⟨w.heap.size + 1, 4, none⟩ = some (.func (.func 75) #[] #[])

theorem Laid2.below {w wr w2 : World} {q s fr b : Int} {v : Value} (h : Laid2 w wr q s fr b v) (hb : Below wr.heap.size wr w2) : Laid2 w w2 q s fr b v := by
  have z := h.size
  have c0 : ∀ j, w2.cell? ⟨w.heap.size, j, none⟩ = wr.cell? ⟨w.heap.size, j, none⟩ := fun j => hb.cell (p := ⟨w.heap.size, j, none⟩) (by show w.heap.size < _; omega)
  have c1 : ∀ j, w2.cell? ⟨w.heap.size + 1, j, none⟩ = wr.cell? ⟨w.heap.size + 1, j, none⟩ := fun j => hb.cell (p := ⟨w.heap.size + 1, j, none⟩) (by show w.heap.size + 1 < _; omega)
  exact ⟨h.old.trans (hb.mono (by omega)), Nat.le_trans z hb.size, (c0 _).trans h.p0, (c0 _).trans h.p1, (c0 _).trans h.p2, (c0 _).trans h.p3, (c0 _).trans h.p4,
    (c1 _).trans h.f0, (c1 _).trans h.f1, (c1 _).trans h.f2, (c1 _).trans h.f3, (c1 _).trans h.f4⟩

/-- The check at place i. -/
def chkB (q s fr b : Int) (l : List Stp) : Nat → Bool
  | 0 => kindB q s
  | 1 => inB l.length 1 40
  | 2 => okTo l l.length
  | 3 => folTo l (l.length - 1)
  | _ => ordB 0 fr b 10000
def chkTo (q s fr b : Int) (l : List Stp) (k : Nat) : Bool := (List.range k).all (chkB q s fr b l)
theorem chkTo_five (q s fr b : Int) (l : List Stp) : chkTo q s fr b l 5 = pathB q s fr b l := by
  rw [← checks_path]
  simp [chkTo, List.range_succ, chkB, Bool.and_assoc]

set_option maxHeartbeats 2000000 in
theorem pathOk_any (hF : FollowSaid) (q s fr b : Int) (a : Option Addr) (b0 o cap : Nat) (l : List Stp) (w : World) (hl : l.length ≤ 1048576) (hs : StepsAt w a b0 o l) :
    Calls Try.prog 63 #[.agg #[.int .i64 q, .int .i64 s, .slice a l.length cap, .int .i64 fr, .int .i64 b]] w fun e w' => e = .returned (.bool (pathB q s fr b l)) ∧ Below w.heap.size w w' := by
  have H5 : Hid (chkTo q s fr b l 5 = pathB q s fr b l) := chkTo_five q s fr b l
  go_enter Try.func63, Try.ntmps63
  go_wp2
  go_loopw [9] (fun v wr => ∃ k : Nat, k ≤ 5 ∧ v = .int .i64 k ∧ Laid2 w wr q s fr b (.slice a l.length cap) ∧ chkTo q s fr b l k = true) (fun v _ => 5 - (intOf v).toNat)
  case atStart =>
    refine ⟨0, by omega, rfl, ⟨((Below.refl _ _).alloc (Nat.le_refl _) _).alloc (by simp) _, by simp, ?_, ?_, ?_, ?_, ?_, ?_, ?_, ?_, ?_, ?_⟩, rfl⟩
    all_goals simp [go_sem]
  case round =>
    obtain ⟨k, hk, rfl, hL, hgood⟩ := hrel
    have HG : Hid (chkTo q s fr b l k = true) := hgood
    clear hgood
    have step : ∀ v, chkB q s fr b l k = v → Hid (chkTo q s fr b l (k + 1) = v) := fun v hv => by
      show _ = _
      have := HG.out
      unfold chkTo at *
      rw [all_succ, this, hv]; simp
    have stop : k < 5 → chkB q s fr b l k = false → Hid (pathB q s fr b l = false) := fun h hv => by
      show _ = _
      rw [← H5.out]
      exact all_not h hv
    have p0 := hL.p0
    have p1 := hL.p1
    have p2 := hL.p2
    have p3 := hL.p3
    have p4 := hL.p4
    have hs1 := hs.below hL.old hs.lt
    rcases (show k = 0 ∨ k = 1 ∨ k = 2 ∨ k = 3 ∨ k = 4 ∨ k = 5 by omega) with rfl | rfl | rfl | rfl | rfl | rfl
    · have f := hL.f0
      cases hv : kindB q s with
      | false =>
        have G := stop (by omega) hv
        clear step stop
        go_wp2_with (go_at_call 71; refine (kindIsOk_any _ _ _ _ _ _ _ _).mono ?_; rintro e w2 ⟨rfl, hb2⟩)
        go_ret
        exact ⟨by rw [G.out]; rfl, (hL.below hb2).old⟩
      | true =>
        have G := step _ hv
        clear step stop
        go_wp2_with (go_at_call 71; refine (kindIsOk_any _ _ _ _ _ _ _ _).mono ?_; rintro e w2 ⟨rfl, hb2⟩)
        go_roundw
        case rel => exact ⟨1, by omega, by go_num, hL.below hb2, G.out⟩
        case measure => simp [intOf]
    · have f := hL.f1
      cases hv : inB l.length 1 40 with
      | false =>
        have G := stop (by omega) hv
        clear step stop
        go_wp2_with (go_at_call 72; refine (stepCount_any _ _ _ _ _ _ _ _ hl).mono ?_; rintro e w2 ⟨rfl, hb2⟩)
        go_ret
        exact ⟨by rw [G.out]; rfl, (hL.below hb2).old⟩
      | true =>
        have G := step _ hv
        clear step stop
        go_wp2_with (go_at_call 72; refine (stepCount_any _ _ _ _ _ _ _ _ hl).mono ?_; rintro e w2 ⟨rfl, hb2⟩)
        go_roundw
        case rel => exact ⟨2, by omega, by go_num, hL.below hb2, G.out⟩
        case measure => simp [intOf]
    · have f := hL.f2
      cases hv : okTo l l.length with
      | false =>
        have G := stop (by omega) hv
        clear step stop
        go_wp2_with (go_at_call 73; refine (stepsAreOk_any _ _ _ _ _ b0 o _ _ _ hl hs1).mono ?_; rintro e w2 ⟨rfl, hb2⟩)
        go_ret
        exact ⟨by rw [G.out]; rfl, (hL.below hb2).old⟩
      | true =>
        have G := step _ hv
        clear step stop
        go_wp2_with (go_at_call 73; refine (stepsAreOk_any _ _ _ _ _ b0 o _ _ _ hl hs1).mono ?_; rintro e w2 ⟨rfl, hb2⟩)
        go_roundw
        case rel => exact ⟨3, by omega, by go_num, hL.below hb2, G.out⟩
        case measure => simp [intOf]
    · have f := hL.f3
      cases hv : folTo l (l.length - 1) with
      | false =>
        have G := stop (by omega) hv
        clear step stop
        go_wp2_with (go_at_call 74; refine (hF _ _ _ _ _ b0 o _ _ _ hl hs1).mono ?_; rintro e w2 ⟨rfl, hb2⟩)
        go_ret
        exact ⟨by rw [G.out]; rfl, (hL.below hb2).old⟩
      | true =>
        have G := step _ hv
        clear step stop
        go_wp2_with (go_at_call 74; refine (hF _ _ _ _ _ b0 o _ _ _ hl hs1).mono ?_; rintro e w2 ⟨rfl, hb2⟩)
        go_roundw
        case rel => exact ⟨4, by omega, by go_num, hL.below hb2, G.out⟩
        case measure => simp [intOf]
    · have f := hL.f4
      cases hv : ordB 0 fr b 10000 with
      | false =>
        have G := stop (by omega) hv
        clear step stop
        go_wp2_with (go_at_call 75; refine (endIsOk_any _ _ _ _ _ _ _ _).mono ?_; rintro e w2 ⟨rfl, hb2⟩)
        go_ret
        exact ⟨by rw [G.out]; rfl, (hL.below hb2).old⟩
      | true =>
        have G := step _ hv
        clear step stop
        go_wp2_with (go_at_call 75; refine (endIsOk_any _ _ _ _ _ _ _ _).mono ?_; rintro e w2 ⟨rfl, hb2⟩)
        go_roundw
        case rel => exact ⟨5, by omega, by go_num, hL.below hb2, G.out⟩
        case measure => simp [intOf]
    · clear step stop
      go_wp2
      go_ret
      exact ⟨by rw [← H5.out, HG.out]; rfl, hL.old⟩
end Go.Proofs.Ytgkebobmfagklaa

namespace Go.Proofs.Ytgkebobmfagklaa
open Go.RowKit Go.Shelf
attribute [local go_sem] Oper.semAt_some

/-- The j-th pair of steps. -/
def pairAt (l : List Stp) (j : Nat) : Stp × Stp := (l.getD j .zero, l.getD (j + 1) .zero)
/-- The first k pairs. -/
def pairsTo (l : List Stp) (k : Nat) : List (Stp × Stp) := (List.range k).map (pairAt l)
theorem pairsTo_succ (l : List Stp) (k : Nat) : pairsTo l (k + 1) = pairsTo l k ++ [pairAt l k] := by simp [pairsTo, List.range_succ]
theorem pairsTo_length (l : List Stp) (k : Nat) : (pairsTo l k).length = k := by simp [pairsTo]

abbrev encP (x : Stp × Stp) : Array Value := #[x.1.val, x.2.val]

set_option maxRecDepth 100000 in
set_option maxHeartbeats 2000000 in
theorem pairs1_in (n : Nat) (hn : 1 ≤ n) (lp Bs n₀ b0 o cap : Nat) (a : Option Addr) (l : List Stp) (hl : l.length ≤ 1048576) (hBs : Bs < n₀) (hb0 : l ≠ [] → b0 < n₀) (J Jx : List (Stp × Stp) → World → Prop) (hJ : ∀ s A, J s A → J s A.drew)
    (hY : ∀ pre x W, J pre W → pre.length < l.length → YieldAt Fence.wide (n - 1) Try.prog lp (encP x) W fun e W' =>
      (e = .returned (.bool true) ∧ J (pre ++ [x]) W' ∧ Below n₀ W W') ∨ (e = .returned (.bool false) ∧ Jx (pre ++ [x]) W'))
    (W : World) (hc : W.cell? ⟨Bs, 0, none⟩ = some (.slice a l.length cap)) (hs : StepsAt W a b0 o l) (h0 : J [] W) :
    CallsIn Fence.wide n Try.prog 87 #[.func (.yield lp) #[] #[], .pointer (some ⟨Bs, 0, none⟩)] W fun e W' => (∃ v, e = .returned v) ∧
      ((∃ ys, ys = pairsTo l (l.length - 1) ∧ J ys W') ∨ (∃ pre, (∃ k, k ≤ l.length - 1 ∧ pre = pairsTo l k) ∧ Jx pre W')) := by
  refine callsIn_of_wp Try.func87 rfl trivial ?_ rfl
  simp only [Try.ntmps87, List.size_toArray, List.length_cons, List.length_nil, Nat.reduceAdd, Nat.reduceSub, Array.replicate_succ, Array.replicate_zero, List.push_toArray, List.append_toArray, List.nil_append, List.cons_append]
  gi_wp2
  gi_loopw [3] (fun i wr => ∃ k : Nat, k ≤ l.length - 1 ∧ i = .int .i64 (k + 1 : Nat) ∧ J (pairsTo l k) wr ∧ Below n₀ W wr) (fun i _ => l.length - (intOf i).toNat)
  case atStart => exact ⟨0, Nat.zero_le _, rfl, h0, Below.refl _ _⟩
  case round =>
    obtain ⟨k, hk, rfl, hJs, hnx⟩ := hrel
    have hcx := (hnx.cell (p := ⟨Bs, 0, none⟩) hBs).trans hc
    by_cases hlt : k + 1 < l.length
    · obtain ⟨p, hpk⟩ : ∃ p, l[k]? = some p := ⟨l[k], List.getElem?_eq_getElem (by omega)⟩
      obtain ⟨t, htk⟩ : ∃ t, l[k + 1]? = some t := ⟨l[k + 1], List.getElem?_eq_getElem hlt⟩
      have hne : l ≠ [] := by intro e; subst e; simp at hlt
      obtain rfl := hs.here hne
      have hs' := hs.below hnx hb0
      obtain ⟨c0, c1, c2, c3, c4, c5, c6⟩ := hs'.seven hpk
      obtain ⟨d0, d1, d2, d3, d4, d5, d6⟩ := hs'.seven htk
      have HP : Hid (pairAt l k = (p, t)) := by show _ = _; simp [pairAt, List.getD, hpk, htk]
      obtain ⟨fn, tmps, assign, body, hy, hR⟩ := hY _ (p, t) wr.drew (hJ _ _ hJs) (by rw [pairsTo_length]; omega)
      dsimp only [encP] at hy
      have hR' := hR.mono (R' := fun e W' => ∃ bb : Bool, e = .returned (.bool bb) ∧ ((bb = true ∧ J (pairsTo l k ++ [(p, t)]) W' ∧ Below n₀ wr.drew W') ∨ (bb = false ∧ Jx (pairsTo l k ++ [(p, t)]) W'))) (by
        rintro e W' (⟨h1, h2, h3⟩ | ⟨h1, h2⟩)
        · exact ⟨true, h1, .inl ⟨rfl, h2, h3⟩⟩
        · exact ⟨false, h1, .inr ⟨rfl, h2⟩⟩)
      clear hpk htk hs' hY hR
      have k0 : (0 : Int) ≤ (k : Int) := by omega
      have k1 : (k : Int) + 1 < (l.length : Int) := by omega
      have k2 : (k : Int) < (l.length : Int) := by omega
      have k3 : k < l.length := by omega
      have k4 : (0 : Int) ≤ (k : Int) + 1 := by omega
      have k5 : IntKind.i64.wrap (k : Int) = (k : Int) := by rw [IntKind.wrap_i64]; omega
      gi_wp2
      gi_region_with (refine hR'.mono ?_; rintro e W3 ⟨bb, rfl, hor⟩)
      all_goals
        cases bb with
        | true =>
          obtain ⟨hJ3, hk3⟩ : J (pairsTo l k ++ [(p, t)]) W3 ∧ Below n₀ wr.drew W3 := by simpa using hor
          gi_wp2
          go_roundw
          case rel => exact ⟨k + 1, by omega, by go_num, by rw [pairsTo_succ, HP.out]; exact hJ3, hnx.drew.trans hk3⟩
          case measure => simp [intOf]; omega
        | false =>
          have hJx3 : Jx (pairsTo l k ++ [(p, t)]) W3 := by simpa using hor
          gi_wp2
          refine bodyPost_ret (results_none rfl _ _ _) rfl ?_
          exact ⟨⟨_, rfl⟩, .inr ⟨_, ⟨k + 1, by omega, by rw [pairsTo_succ, HP.out]⟩, hJx3⟩⟩
    · obtain rfl : k = l.length - 1 := by omega
      gi_wp2
      go_end0
      exact ⟨⟨_, rfl⟩, .inl ⟨_, rfl, hJs⟩⟩
end Go.Proofs.Ytgkebobmfagklaa

namespace Go.Proofs.Ytgkebobmfagklaa
open Go.RowKit Go.Shelf
attribute [local go_sem] Oper.semAt_some

set_option maxHeartbeats 1000000 in
theorem pairs_in (n : Nat) (a : Option Addr) (len cap : Nat) (w : World) :
    CallsIn Fence.wide n Try.prog 83 #[.slice a len cap] w fun e w' => e = .returned (.func (.func 87) #[] #[.pointer (some ⟨w.heap.size, 0, none⟩)]) ∧ w' = w.alloc (.cells #[.slice a len cap] 32) := by
  refine callsIn_of_wp Try.func83 rfl trivial ?_ rfl
  simp only [Try.ntmps83, List.size_toArray, List.length_cons, List.length_nil, Nat.reduceAdd, Nat.reduceSub, Array.replicate_succ, Array.replicate_zero, List.push_toArray, List.append_toArray, List.nil_append, List.cons_append]
  gi_wp2
  go_ret
  exact ⟨rfl, rfl⟩

theorem pairs_stops (n : Nat) (hn : 1 ≤ n) (Bs n₀ b0 o cap : Nat) (a : Option Addr) (l : List Stp) (hl : l.length ≤ 1048576) (w : World) (hBs : Bs < n₀) (hn₀ : n₀ ≤ w.heap.size)
    (hc : w.cell? ⟨Bs, 0, none⟩ = some (.slice a l.length cap)) (hs : StepsAt w a b0 o l) (hb0 : l ≠ [] → b0 < n₀) :
    SeqStopsK Fence.wide n Try.prog 87 #[.pointer (some ⟨Bs, 0, none⟩)] encP (Below n₀) (fun ys => ys = pairsTo l (l.length - 1)) (fun pre => ∃ k, k ≤ l.length - 1 ∧ pre = pairsTo l k) l.length w := fun lp J Jx W hW hJ _ hY h0 =>
  pairs1_in n hn lp Bs n₀ b0 o cap a l hl hBs hb0 J Jx (fun s A h => hJ s A A.drew none h ⟨rfl, rfl, rfl, Nat.le_refl _, fun _ _ _ => rfl⟩ (fun r e => by cases e)) hY W
    ((hW.cell (p := ⟨Bs, 0, none⟩) (Nat.lt_of_lt_of_le hBs hn₀)).trans hc) (hs.below hW (fun h => Nat.lt_of_lt_of_le (hb0 h) hn₀)) h0

/-- A block that holds one step. -/
def BoxS (W : World) (B : Nat) (s : Stp) : Prop := W.heap[B]? = some (.cells #[.int .i64 s.x, .int .i64 s.y, .int .i64 s.lo, .int .i64 s.hi, .int .i64 s.fr, .int .i64 s.by_, .bool s.ho] 75 (0, 0))
theorem BoxS.lt {W : World} {B : Nat} {s : Stp} (h : BoxS W B s) : B < W.heap.size := (Array.getElem?_eq_some_iff.1 h).1
theorem BoxS.kept {W W' : World} {row : Option Nat} {B : Nat} {s : Stp} (h : BoxS W B s) (hg : W.grownBy W' row) (hne : some B ≠ row) : BoxS W' B s := (hg.block B h.lt hne).trans h
theorem BoxS.alloc {W : World} {B : Nat} {s : Stp} (h : BoxS W B s) (ob : Obj) : BoxS (W.alloc ob) B s := (Below.heap_alloc W ob B h.lt).trans h
theorem BoxS.new (W : World) (s : Stp) : BoxS (W.alloc (.cells #[.int .i64 s.x, .int .i64 s.y, .int .i64 s.lo, .int .i64 s.hi, .int .i64 s.fr, .int .i64 s.by_, .bool s.ho] 75)) W.heap.size s := World.alloc_heap_new W _
theorem BoxS.own {X Y : World} {row : Option Nat} {B : Nat} {s : Stp} (h : BoxS X B s) (hg : X.grownBy Y row) (hr : ∀ r, row = some r → ∃ ob : Obj, X.heap[r]? = some ob ∧ ob.isCells = false) : BoxS Y B s :=
  h.kept hg (fun e' => by obtain ⟨ob, ho, hc⟩ := hr B e'.symm; rw [show X.heap[B]? = _ from h] at ho; cases ho; cases hc)
theorem BoxS.seven {W : World} {B : Nat} {s : Stp} (h : BoxS W B s) :
    W.cell? ⟨B, 0, none⟩ = some (.int .i64 s.x) ∧ W.cell? ⟨B, 1, none⟩ = some (.int .i64 s.y) ∧ W.cell? ⟨B, 2, none⟩ = some (.int .i64 s.lo) ∧ W.cell? ⟨B, 3, none⟩ = some (.int .i64 s.hi) ∧
    W.cell? ⟨B, 4, none⟩ = some (.int .i64 s.fr) ∧ W.cell? ⟨B, 5, none⟩ = some (.int .i64 s.by_) ∧ W.cell? ⟨B, 6, none⟩ = some (.bool s.ho) := by
  refine ⟨?_, ?_, ?_, ?_, ?_, ?_, ?_⟩ <;> simp [World.cell?, show W.heap[B]? = _ from h]

theorem keeps_below {W W' : World} (h : Below W.heap.size W W') : KeepsOthers W W' :=
  ⟨h.size, fun k _ hk _ => (h.block k (Array.getElem?_eq_some_iff.1 hk).1).trans hk⟩
theorem boxed_below {W W' : World} {B : Nat} {t : TypeId} {v : Value} (h : Boxed W B t v) (hb : Below W.heap.size W W') : Boxed W' B t v := (hb.block B h.lt).trans h

/-- A pair of which the second follows the first, as the program asks it. -/
def folP (x : Stp × Stp) : Bool := folB x.2.x x.2.y x.2.lo x.2.hi x.1.x x.1.y x.1.lo x.1.hi
theorem folTo_pairs (l : List Stp) (k : Nat) : folTo l k = (pairsTo l k).all folP := by
  simp only [folTo, pairsTo, List.all_map]
  rfl

set_option maxRecDepth 100000 in
set_option maxHeartbeats 4000000 in
theorem follow_any : FollowSaid := by
  intro q s fr b a b0 o cap l w hl hs
  refine (callsIn_wide (n := 4)).1 ?_
  refine callsIn_of_wp_marks Try.func74 rfl trivial ?_ rfl
  simp only [Try.ntmps74, List.size_toArray, List.length_cons, List.length_nil, Nat.reduceAdd, Nat.reduceSub, Array.replicate_succ, Array.replicate_zero, List.push_toArray, List.append_toArray, List.nil_append, List.cons_append]
  gi_wp2_with (refine ⟨trivial, ?_⟩; gi_at_call 83; refine (pairs_in _ _ _ _ _).mono ?_; rintro e w' ⟨rfl, rfl⟩)
  have bR := (Boxed.new (w.alloc (.cells #[.int .i64 q, .int .i64 s, .slice a l.length cap, .int .i64 fr, .int .i64 b] 34)) 4 (.bool false)).alloc (.cells #[.slice a l.length cap] 32)
  have bA := Boxed.new ((w.alloc (.cells #[.int .i64 q, .int .i64 s, .slice a l.length cap, .int .i64 fr, .int .i64 b] 34)).alloc (.cells #[.bool false] 4)) 32 (.slice a l.length cap)
  simp only [World.size_alloc] at bR bA
  have hB0 : Below w.heap.size w (((w.alloc (.cells #[.int .i64 q, .int .i64 s, .slice a l.length cap, .int .i64 fr, .int .i64 b] 34)).alloc (.cells #[.bool false] 4)).alloc (.cells #[.slice a l.length cap] 32)) := (((Below.refl _ w).alloc (Nat.le_refl _) _).alloc (by simp) _).alloc (by simp; omega) _
  have hsz : (((w.alloc (.cells #[.int .i64 q, .int .i64 s, .slice a l.length cap, .int .i64 fr, .int .i64 b] 34)).alloc (.cells #[.bool false] 4)).alloc (.cells #[.slice a l.length cap] 32)).heap.size = w.heap.size + 3 := by simp
  obtain ⟨W0, hW0⟩ : ∃ W0, (((w.alloc (.cells #[.int .i64 q, .int .i64 s, .slice a l.length cap, .int .i64 fr, .int .i64 b] 34)).alloc (.cells #[.bool false] 4)).alloc (.cells #[.slice a l.length cap] 32)) = W0 := ⟨_, rfl⟩
  rw [hW0] at bR bA hB0 hsz ⊢
  clear hW0
  refine wpIn_rangeFunc_ownH rfl (by omega) (gf := 87) (lb := #[.pointer (some ⟨w.heap.size + 1 + 1, 0, none⟩)]) rfl trivial (enters_of Try.func87 (by kernel_rfl) rfl)
    (pairs_stops _ (by omega) (w.heap.size + 1 + 1) W0.heap.size b0 o cap a l hl W0 (by omega) (Nat.le_refl _) bA.cell (hs.below hB0 hs.lt) (fun h => by have := hs.lt h; omega)) belowK_t (belowK_b (Nat.le_refl _)) (Below.refl _ _) (fun _ => rfl)
    (fun pre W => ((pre.all folP = true ∧ Boxed W (w.heap.size + 1) 4 (.bool false)) ∧ Boxed W (w.heap.size + 1 + 1) 32 (.slice a l.length cap)) ∧ Below w.heap.size w W)
    (fun c pre W => ((c = .ret ∧ pre.all folP = false) ∧ Boxed W (w.heap.size + 1) 4 (.bool false)) ∧ Below w.heap.size w W)
    (OwnFrom.and (OwnFrom.and (OwnFrom.and (ownFrom_pure _ _) (Own.from (boxed_own _ _ _) _)) (Own.from (boxed_own _ _ _) _)) (ownFrom_below (Nat.le_refl _) (by omega)))
    (fun c => OwnFrom.and (OwnFrom.and (ownFrom_pure _ _) (Own.from (boxed_own _ _ _) _)) (ownFrom_below (Nat.le_refl _) (by omega)))
    ⟨⟨⟨rfl, bR⟩, bA⟩, hB0⟩
    (fun x a' W => ∃ Bx By, w.heap.size + 1 < Bx ∧ w.heap.size + 1 < By ∧ BoxS W Bx x.1 ∧ BoxS W By x.2 ∧ a' = { tmps := #[.agg #[.int .i64 q, .int .i64 s, .slice a l.length cap, .int .i64 fr, .int .i64 b], .pointer (some ⟨w.heap.size, 0, none⟩), .pointer (some ⟨w.heap.size + 1, 0, none⟩), .pointer (some ⟨Bx, 0, none⟩), .pointer (some ⟨By, 0, none⟩), .pointer (some ⟨w.heap.size, 2, none⟩), .slice a l.length cap, .func (.func 87) #[] #[.pointer (some ⟨w.heap.size + 1 + 1, 0, none⟩)], x.1.val, x.2.val, undef, undef, undef, undef], defers := [] })
    (fun x a' _ X Y row hs' hg hr => by obtain ⟨Bx, By, h1, h2, h3, h4, h5⟩ := hs'; exact ⟨Bx, By, h1, h2, h3.own hg (fun r e => (hr r e).2), h4.own hg (fun r e => (hr r e).2), h5⟩)
    ?assign ?body ?done ?stop
  case assign =>
    rintro lp pre x W K ⟨⟨⟨hall, bR1⟩, bA1⟩, hB1⟩ hK
    have hW := bA1.lt
    gi_wp2
    exact hK _ _ (((KeepsOthers.alloc _ _).trans (KeepsOthers.alloc _ _)).from _) (((Below.refl _ W).alloc (by omega) _).alloc (by simp; omega) _) ⟨⟨⟨hall, (bR1.alloc _).alloc _⟩, (bA1.alloc _).alloc _⟩, (hB1.alloc hB1.size _).alloc (by simp; omega) _⟩
      ⟨W.heap.size, W.heap.size + 1, by omega, by omega, (BoxS.new W x.1).alloc _, by have := BoxS.new (W.alloc (.cells #[.int .i64 x.1.x, .int .i64 x.1.y, .int .i64 x.1.lo, .int .i64 x.1.hi, .int .i64 x.1.fr, .int .i64 x.1.by_, .bool x.1.ho] 75)) x.2; simpa using this, rfl⟩
  case body =>
    rintro lp pre x a' W _ _ ⟨⟨⟨hall, bR1⟩, bA1⟩, hB1⟩ ⟨Bx, By, hBx, hBy, bX, bY, rfl⟩ hlt
    obtain ⟨c0, c1, c2, c3, c4, c5, c6⟩ := bX.seven
    obtain ⟨d0, d1, d2, d3, d4, d5, d6⟩ := bY.seven
    have hW := bA1.lt
    have HA : Hid (pre.all folP = true) := hall
    clear hall
    cases hf : folB x.2.x x.2.y x.2.lo x.2.hi x.1.x x.1.y x.1.lo x.1.hi with
    | false =>
      have HE : Hid ((pre ++ [x]).all folP = false) := by show _ = _; rw [List.all_append, HA.out]; simp [folP, hf]
      gi_wp2_with (refine ⟨trivial, ?_⟩; gi_at_call 84; refine (CallsIn.inRound lp (callsIn_wide.2 (follows_any _ _ _ _ _ _ _ _ _ _ _ _ _ _ _))).mono ?_; rintro e w2 ⟨rfl, hb2⟩; have rc := (boxed_below bR1 hb2).cell; have rf := (boxed_below bR1 hb2).frozen)
      exact ⟨((keeps_below hb2).trans (KeepsOthers.setCell _ _ _)).from _, ⟨⟨rfl, HE.out⟩, (boxed_below bR1 hb2).set _⟩, (hB1.trans (hb2.mono hB1.size)).setCell (p := ⟨w.heap.size + 1, 0, none⟩) (by simp) _⟩
    | true =>
      have HE : Hid ((pre ++ [x]).all folP = true) := by show _ = _; rw [List.all_append, HA.out]; simp [folP, hf]
      gi_wp2_with (refine ⟨trivial, ?_⟩; gi_at_call 84; refine (CallsIn.inRound lp (callsIn_wide.2 (follows_any _ _ _ _ _ _ _ _ _ _ _ _ _ _ _))).mono ?_; rintro e w2 ⟨rfl, hb2⟩)
      exact ⟨(keeps_below hb2).from _, hb2.mono (by omega), ⟨⟨HE.out, boxed_below bR1 hb2⟩, boxed_below bA1 hb2⟩, hB1.trans (hb2.mono hB1.size)⟩
  case done =>
    rintro D zs W hD rfl ⟨⟨⟨hall, bR1⟩, bA1⟩, hB1⟩ hK
    have rc := bR1.cell
    have rf := bR1.frozen
    have HE : Hid (folTo l (l.length - 1) = true) := by show _ = _; rw [folTo_pairs]; exact hall
    clear hall
    gi_wp2
    have hK' := (KeepsOthers.setCell W ⟨w.heap.size + 1, 0, none⟩ (.bool true)).same D _ hK rfl
    refine ⟨by simp, .inl ⟨_, _, rfl, run_takeDeferred hK', ?_⟩⟩
    have hc5 := cell_kept (World.cell?_setCell_same' W ⟨w.heap.size + 1, 0, none⟩ (.bool true) (by rw [rc]; rfl)) (grownBy_putObj' _ D (.deferred none)) (fun r e => by cases e; exact ⟨_, hK', rfl⟩)
    refine ⟨.bool true, ?_, by rw [HE.out], (hB1.setCell (p := ⟨w.heap.size + 1, 0, none⟩) (by simp) _).trans (belowK_b (w := w) (Nat.le_refl _) _ D _ _ (by omega) hK' rfl rfl)⟩
    simp [results, Try.f74, go_sem, hc5]
  case stop =>
    rintro D c pre W hD ⟨k, hk, rfl⟩ ⟨⟨⟨rfl, hbad⟩, bR1⟩, hB1⟩ hK
    have HE : Hid (folTo l (l.length - 1) = false) := by
      show _ = _
      rw [← folTo_pairs] at hbad
      cases e : folTo l (l.length - 1) with
      | false => rfl
      | true =>
        exfalso
        simp only [folTo, List.all_eq_true, List.mem_range] at e
        have : folTo l k = true := by simp only [folTo, List.all_eq_true, List.mem_range]; exact fun i hi => e i (by omega)
        rw [this] at hbad
        cases hbad
    clear hbad
    gi_wp2
    refine ⟨by simp, .inl ⟨_, _, rfl, run_takeDeferred hK, ?_⟩⟩
    have hc5 := cell_kept bR1.cell (grownBy_putObj' _ D (.deferred none)) (fun r e => by cases e; exact ⟨_, hK, rfl⟩)
    refine ⟨.bool false, ?_, by rw [HE.out], hB1.trans (belowK_b (w := w) (Nat.le_refl _) W D _ _ (by omega) hK rfl rfl)⟩
    simp [results, Try.f74, go_sem, hc5]
end Go.Proofs.Ytgkebobmfagklaa

namespace Go.Proofs.Ytgkebobmfagklaa
open Go.RowKit

theorem begunB_congr {q s fr b : Int} {l : List Stp} {zs zs' : List Int} : ∀ {m : Nat}, (∀ i, i < m → zs.getD i 0 = zs'.getD i 0) → begunB q s fr b l zs m = begunB q s fr b l zs' m
  | 0, _ => rfl
  | m + 1, h => by
    rw [begunB, begunB, begunB_congr (fun i hi => h i (by omega)), h m (by omega)]
    have e : openA q s fr b l l.length (fun i => zs.getD i 0) m = openA q s fr b l l.length (fun i => zs'.getD i 0) m := by
      cases m with
      | zero => rfl
      | succ k => simp only [openA]; rw [h k (by omega)]
    rw [e]
theorem getD_snoc_lt (cs : List Int) (z : Int) {i : Nat} (h : i < cs.length) : (cs ++ [z]).getD i 0 = cs.getD i 0 := by
  rw [List.getD_eq_getElem?_getD, List.getD_eq_getElem?_getD, List.getElem?_append_left h]
theorem getD_snoc_eq (cs : List Int) (z : Int) : (cs ++ [z]).getD cs.length 0 = z := by
  rw [List.getD_eq_getElem?_getD, List.getElem?_append_right (Nat.le_refl _)]; simp
theorem openA_snoc (q s fr b : Int) (l : List Stp) (cs : List Int) (z : Int) {k : Nat} (hk : k ≤ cs.length) : openA q s fr b l l.length (fun i => (cs ++ [z]).getD i 0) k = openA q s fr b l l.length (fun i => cs.getD i 0) k := by
  cases k with
  | zero => rfl
  | succ m => simp only [openA]; rw [getD_snoc_lt cs z (by omega)]
theorem goB_snoc (q s fr b : Int) (l : List Stp) (cs : List Int) (z : Int) : goB q s fr b l (cs ++ [z]) = (goB q s fr b l cs && (inB z (openA q s fr b l l.length (fun i => cs.getD i 0) cs.length).1 (openA q s fr b l l.length (fun i => cs.getD i 0) cs.length).2 && decide (cs.length + 1 ≤ l.length))) := by
  unfold goB
  rw [List.length_append, List.length_singleton, begunB, getD_snoc_eq, openA_snoc q s fr b l cs z (Nat.le_refl _), begunB_congr (zs' := cs) (fun i hi => getD_snoc_lt cs z hi)]
  generalize inB z (openA q s fr b l l.length (fun i => cs.getD i 0) cs.length).1 (openA q s fr b l l.length (fun i => cs.getD i 0) cs.length).2 = B
  by_cases h1 : cs.length + 1 ≤ l.length
  · rw [decide_eq_true h1, decide_eq_true (show cs.length ≤ l.length by omega)]
    cases pathB q s fr b l <;> cases spanB q s fr b l <;> cases begunB q s fr b l cs cs.length <;> cases B <;> rfl
  · rw [decide_eq_false h1]
    cases pathB q s fr b l <;> cases spanB q s fr b l <;> simp

/-- What the variable of the closure holds when these ticks have come. -/
def OpenV (w : World) (q s fr b : Int) (l : List Stp) (base g scap : Nat) (cs : List Int) (v : Value) : Prop :=
  if goB q s fr b l cs then
    (∃ cp, l.length - cs.length + 1 ≤ cp ∧ v = .slice (some ⟨g, cs.length * 2, none⟩) (l.length - cs.length + 1) cp) ∧ w.ownsRow base 61 2 (.slice (some ⟨g, 0, none⟩) (l.length + 1) scap) (l.length + 1) (spanCells (rowG q s fr b l (fun i => cs.getD i 0) cs.length))
  else ∃ a cp, v = .slice a 0 cp
theorem OpenV.keep {w w' : World} {q s fr b : Int} {l : List Stp} {base g scap : Nat} {cs : List Int} {v : Value} (h : OpenV w q s fr b l base g scap cs v) (hb : goB q s fr b l cs = true → g < w.heap.size → w'.heap[g]? = w.heap[g]?) : OpenV w' q s fr b l base g scap cs v := by
  unfold OpenV at *
  split
  · rename_i hg
    rw [if_pos hg] at h
    refine ⟨h.1, h.2.1, h.2.2.imp id fun ⟨g', cap', cur, h1, h2, h3, h4⟩ => ⟨g', cap', cur, h1, h2, ?_, h4⟩⟩
    have e : g = g' := by cases h1; rfl
    subst e
    exact (hb hg (lt_of_block h3)).trans h3
  · rename_i hg
    rw [if_neg hg] at h
    exact h

theorem goB_parts {q s fr b : Int} {l : List Stp} {zs : List Int} (h : goB q s fr b l zs = true) : pathB q s fr b l = true ∧ spanB q s fr b l = true ∧ zs.length ≤ l.length ∧ ∀ k, k < zs.length → inP (zs.getD k 0) (openA q s fr b l l.length (fun i => zs.getD i 0) k) := by
  simp only [goB, Bool.and_eq_true, decide_eq_true_eq] at h
  exact ⟨h.1.1.1, h.1.1.2, h.1.2, (begunB_iff q s fr b l zs zs.length).1 h.2⟩
theorem open_range {q s fr b : Int} {l : List Stp} {zs : List Int} (h : goB q s fr b l zs = true) : 0 ≤ (openA q s fr b l l.length (fun i => zs.getD i 0) zs.length).1 ∧ (openA q s fr b l l.length (fun i => zs.getD i 0) zs.length).1 ≤ (openA q s fr b l l.length (fun i => zs.getD i 0) zs.length).2 ∧ (openA q s fr b l l.length (fun i => zs.getD i 0) zs.length).2 ≤ 10000 := by
  obtain ⟨hp, hsp, hz, hall⟩ := goB_parts h
  have hw := Wide.of hp
  rw [hw.span_fwd] at hsp
  have hso := open_some hw.quick hsp (fun i => zs.getD i 0) hz hall
  have w1 := span_win hw.quick hsp hz (openA_sub zs.length ⟨Int.le_refl _, hso⟩)
  have w2 := span_win hw.quick hsp hz (openA_sub zs.length ⟨hso, Int.le_refl _⟩)
  have := hw.win zs.length
  omega

theorem grown_of_below {w w' : World} {g : Nat} (h : Below w.heap.size w w') : w.grownBy w' (some g) := ⟨h.os, h.tape, h.output, h.size, fun i hi _ => h.block i hi⟩

theorem behind_st (q s fr b : Int) (a : Option Addr) (b0 o cap : Nat) (l : List Stp) (base g scap : Nat) (cs : List Int) (v : Value) (z : Int) (w : World) (hl : l.length ≤ 1048576) (hs : StepsAt w a b0 o l) (hb0 : l ≠ [] → b0 ≠ g) (hv : OpenV w q s fr b l base g scap cs v) :
    Calls Try.prog 62 #[.agg #[.int .i64 q, .int .i64 s, .slice a l.length cap, .int .i64 fr, .int .i64 b], v, .int .i64 z] w
      fun x w' => ∃ v', x = .returned v' ∧ (w.grownBy w' (some g) ∧ (goB q s fr b l cs = false → Below w.heap.size w w')) ∧ OpenV w' q s fr b l base g scap (cs ++ [z]) v' := by
  unfold OpenV at hv
  split at hv
  · rename_i hg
    obtain ⟨⟨cp, hcp, rfl⟩, hown⟩ := hv
    obtain ⟨hp, hsp, hz, hall⟩ := goB_parts hg
    have hk := kind_range hp
    have hr := open_range hg
    have hget := rowG_get q s fr b l (fun i => cs.getD i 0) cs.length cs.length hz
    rw [if_pos (Nat.le_refl _)] at hget
    refine (behind_live q s fr b a b0 o cap l g scap base cs.length (l.length - cs.length) cp _ z w hl hs (by omega) hcp (by omega) (by omega) _ (spanAt q s fr b l l.length (cs.length + 1)) hb0 hget ?_ ⟨hr.1, hr.2.2⟩ hown).mono ?_
    · intro hm
      have := rowG_get q s fr b l (fun i => cs.getD i 0) cs.length (cs.length + 1) (by omega)
      rwa [if_neg (by omega)] at this
    · rintro x w' ⟨hgr, h⟩
      have hsn := goB_snoc q s fr b l cs z
      rw [hg, Bool.true_and] at hsn
      rcases h with ⟨h1, rfl⟩ | ⟨h1, h2, a', cp', rfl⟩ | ⟨h1, h2, rfl, h3⟩
      · rw [h1, Bool.false_and] at hsn
        refine ⟨_, rfl, ⟨hgr, fun h => by rw [hg] at h; cases h⟩, ?_⟩
        unfold OpenV
        rw [if_neg (by rw [hsn]; simp)]
        exact ⟨_, _, rfl⟩
      · rw [decide_eq_false (show ¬ cs.length + 1 ≤ l.length by omega), Bool.and_false] at hsn
        refine ⟨_, rfl, ⟨hgr, fun h => by rw [hg] at h; cases h⟩, ?_⟩
        unfold OpenV
        rw [if_neg (by rw [hsn]; simp)]
        exact ⟨_, _, rfl⟩
      · rw [h1, decide_eq_true (show cs.length + 1 ≤ l.length by omega)] at hsn
        refine ⟨_, rfl, ⟨hgr, fun h => by rw [hg] at h; cases h⟩, ?_⟩
        unfold OpenV
        rw [if_pos (by rw [hsn]; rfl), List.length_append, List.length_singleton]
        refine ⟨⟨cp - 1, by omega, ?_⟩, ?_⟩
        · rw [show l.length - (cs.length + 1) + 1 = l.length - cs.length by omega]
        · rw [rowG_succ, getD_snoc_eq, rowG_congr (c' := fun i => cs.getD i 0) (fun i hi => getD_snoc_lt cs z hi)]
          exact h3
  · rename_i hg
    obtain ⟨a', cp, rfl⟩ := hv
    refine (behind_dead q s fr b a l.length cap a' cp z w).mono ?_
    rintro x w' ⟨rfl, hb⟩
    refine ⟨_, rfl, ⟨grown_of_below hb, fun _ => hb⟩, ?_⟩
    have hsn := goB_snoc q s fr b l cs z
    rw [Bool.not_eq_true] at hg
    rw [hg, Bool.false_and] at hsn
    unfold OpenV
    rw [if_neg (by rw [hsn]; simp)]
    exact ⟨_, _, rfl⟩

theorem goB_mono {q s fr b : Int} {l : List Stp} {cs : List Int} : ∀ (zs : List Int), goB q s fr b l (cs ++ zs) = true → goB q s fr b l cs = true := by
  intro zs
  induction zs generalizing cs with
  | nil => intro h; simpa using h
  | cons z zs ih =>
    intro h
    have h1 := ih (cs := cs ++ [z]) (by simpa using h)
    rw [goB_snoc, Bool.and_eq_true] at h1
    exact h1.1

/-- All blocks that lay, but two, lie as they lay. -/
structure Kept2 (g o : Nat) (w w' : World) : Prop where
  os : w'.os = w.os
  tape : w'.tape = w.tape
  output : w'.output = w.output
  size : w.heap.size ≤ w'.heap.size
  block : ∀ i, i < w.heap.size → i ≠ g → i ≠ o → w'.heap[i]? = w.heap[i]?
end Go.Proofs.Ytgkebobmfagklaa

namespace Go.Proofs.Ytgkebobmfagklaa
open Go.RowKit

/-- The tick of a span that is nearest to one. -/
def clampB (x : Int × Int) (z : Int) : Int := mnB (mxB x.1 z) x.2
theorem clampB_other {x : Int × Int} (h : x.1 ≤ x.2) (z : Int) : mxB x.1 (mnB z x.2) = clampB x z := by
  unfold clampB mxB mnB; repeat' split <;> omega
def tickA (x : Int × Int) : List Int → Int
  | [] => x.1
  | z :: _ => clampB x z
/-- The ticks when i have come behind what has begun. -/
def goAt (q s fr b : Int) (l : List Stp) (cs asks : List Int) : Nat → List Int
  | 0 => cs
  | i + 1 => goAt q s fr b l cs asks i ++ [tickA (goS q s fr b l (goAt q s fr b l cs asks i)) (asks.drop i)]
theorem goAt_length (q s fr b : Int) (l : List Stp) (cs asks : List Int) : ∀ i, (goAt q s fr b l cs asks i).length = cs.length + i
  | 0 => rfl
  | i + 1 => by rw [goAt, List.length_append, goAt_length q s fr b l cs asks i]; simp; omega
/-- How many come. -/
def goStop (q s fr b : Int) (l : List Stp) (cs asks : List Int) : Nat → Nat → Nat
  | 0, i => i
  | f + 1, i => if goB q s fr b l (goAt q s fr b l cs asks i) then goStop q s fr b l cs asks f (i + 1) else i
theorem goStop_is {q s fr b : Int} {l : List Stp} {cs asks : List Int} {n : Nat} (h : goB q s fr b l (goAt q s fr b l cs asks n) = false) (hall : ∀ j, j < n → goB q s fr b l (goAt q s fr b l cs asks j) = true) :
    ∀ (f i : Nat), i ≤ n → n ≤ i + f → goStop q s fr b l cs asks f i = n
  | 0, i, h1, h2 => by simp only [goStop]; omega
  | f + 1, i, h1, h2 => by
    rw [goStop]
    by_cases e : i = n
    · subst e
      rw [h]; rfl
    · rw [if_pos (hall i (by omega))]
      exact goStop_is h hall f (i + 1) (by omega) (by omega)
/-- The whole flight. -/
def goF (q s fr b : Int) (l : List Stp) (cs asks : List Int) : List Int := goAt q s fr b l cs asks (goStop q s fr b l cs asks (l.length + 1) 0)
theorem goF_is {q s fr b : Int} {l : List Stp} {cs asks : List Int} {n : Nat} (h : goB q s fr b l (goAt q s fr b l cs asks n) = false) (hall : ∀ j, j < n → goB q s fr b l (goAt q s fr b l cs asks j) = true) : goF q s fr b l cs asks = goAt q s fr b l cs asks n := by
  unfold goF
  rw [goStop_is h hall (l.length + 1) 0 (Nat.zero_le _) ?_]
  cases n with
  | zero => omega
  | succ m =>
    have := (goB_parts (hall m (by omega))).2.2.1
    rw [goAt_length] at this
    omega
/-- What FlyGo answers. -/
def flownB (q s fr b : Int) (l : List Stp) (cs asks : List Int) : Bool := lawB q s fr b l (goF q s fr b l cs asks)
def flownL (q s fr b : Int) (l : List Stp) (cs asks : List Int) : List Int := if flownB q s fr b l cs asks then goF q s fr b l cs asks else []
theorem lawB_len {q s fr b : Int} {l : List Stp} {zs : List Int} (h : zs.length ≠ l.length + 1) : lawB q s fr b l zs = false := by
  unfold lawB; rw [decide_eq_false h]; simp
theorem lawB_path {q s fr b : Int} {l : List Stp} {zs : List Int} (h : pathB q s fr b l = false) : lawB q s fr b l zs = false := by
  unfold lawB; rw [h]; rfl
theorem flown_no {q s fr b : Int} {l : List Stp} {cs asks : List Int} (h : flownB q s fr b l cs asks = false) : flownL q s fr b l cs asks = [] := by unfold flownL; rw [h]; rfl

/-- The cells of a list of numbers. -/
def intCells (zs : List Int) : List Value := zs.map (.int .i64 ·)
theorem intCells_length (zs : List Int) : (intCells zs).length = zs.length := by simp [intCells]
theorem intCells_get (zs : List Int) (i : Nat) (z : Int) (h : zs[i]? = some z) : (intCells zs)[i]? = some (.int .i64 z) := by simp [intCells, h]
theorem intCells_snoc (zs : List Int) (z : Int) : intCells (zs ++ [z]) = intCells zs ++ [.int .i64 z] := by simp [intCells]
theorem intCells_one (zs : List Int) : ∀ u ∈ intCells zs, u.oneCell' = true := by
  intro u hu
  simp only [intCells, List.mem_map] at hu
  obtain ⟨z, _, rfl⟩ := hu
  rfl
theorem ints_news {w : World} {b o : Nat} {zs : List Int} {a : Option Addr} (h : IntsAt w a b o zs) : ∀ j u, (intCells zs)[j]? = some u → w.cell? ((⟨b, o, none⟩ : Addr).add j) = some u := by
  intro j u hj
  have hlt : j < zs.length := by rw [← intCells_length]; exact (List.getElem?_eq_some_iff.1 hj).1
  obtain ⟨z, hz⟩ : ∃ z, zs[j]? = some z := ⟨zs[j], List.getElem?_eq_getElem hlt⟩
  rw [intCells_get zs j z hz] at hj
  cases hj
  rw [Addr.add_mid]
  exact h.cell j z hz
theorem ints_owned {w : World} {base e : Nat} {zs : List Int} {v : Value} (h : w.ownsRow base e 1 v zs.length (intCells zs)) : ∃ a g cap, v = .slice a zs.length cap ∧ IntsAt w a g 0 zs ∧ (zs ≠ [] → v.ownBlock = some g) := by
  rcases h.2 with ⟨h1, h2⟩ | ⟨g, cap, cur, rfl, _, hh, _⟩
  · subst h1
    have e0 : zs = [] := List.eq_nil_of_length_eq_zero h2
    subst e0
    exact ⟨none, 0, 0, rfl, ⟨fun h => absurd rfl h, fun h => absurd rfl h, fun i z hi => by simp at hi⟩, fun h => absurd rfl h⟩
  · refine ⟨some ⟨g, 0, none⟩, g, cap, rfl, ⟨fun _ => rfl, fun _ => lt_of_block hh, fun i z hi => ?_⟩, fun _ => rfl⟩
    have hl : i < zs.length := (List.getElem?_eq_some_iff.1 hi).1
    rw [Nat.zero_add]
    exact (h.cellAt i (by omega)).trans (intCells_get zs i z hi)
/-- A row does not lie in a block of another type. -/
theorem row_ne {w : World} {base e size n B : Nat} {v : Value} {xs : List Value} (h : w.ownsRow base e size v n xs) {C : Array Value} {t : TypeId} (hB : w.heap[B]? = some (.cells C t (0, 0))) (hne : t ≠ e) : v.ownBlock ≠ some B := by
  intro hv
  rcases h.2 with ⟨rfl, _⟩ | ⟨g, cap, cur, rfl, _, hh, _⟩
  · cases hv
  · cases hv
    rw [hB] at hh
    cases hh
    exact hne rfl
theorem row_ne_row {w : World} {base e size n base' e' size' n' g cap : Nat} {v : Value} {xs xs' : List Value} (h : w.ownsRow base e size v n xs) (h' : w.ownsRow base' e' size' (.slice (some ⟨g, 0, none⟩) n' cap) n' xs') (hne : e' ≠ e) : v.ownBlock ≠ some g := by
  rcases h'.2 with ⟨h1, _⟩ | ⟨g', cap', cur, h1, _, hh, _⟩
  · cases h1
  · cases h1
    exact row_ne h hh hne
end Go.Proofs.Ytgkebobmfagklaa

namespace Go.Proofs.Ytgkebobmfagklaa
open Go.RowKit

theorem pin_any (n a b : Int) (w : World) :
    Calls Try.prog 29 #[.int .i64 n, .int .i64 a, .int .i64 b] w fun e w' => e = .returned (.bool (inB n a b)) ∧ w' = w := by
  by_cases h1 : a ≤ n
  · by_cases h2 : n ≤ b
    · go_enter Try.func29, Try.ntmps29
      go_wp2
      go_ret
      exact ⟨by simp [inB, h1, h2], rfl⟩
    · have h2' : decide (n ≤ b) = false := by simpa using h2
      go_enter Try.func29, Try.ntmps29
      go_wp2
      go_ret
      exact ⟨by simp [inB, h2'], rfl⟩
  · have h1' : decide (a ≤ n) = false := by simpa using h1
    go_enter Try.func29, Try.ntmps29
    go_wp2
    go_ret
    exact ⟨by simp [inB, h1'], rfl⟩

end Go.Proofs.Ytgkebobmfagklaa

namespace Go.Proofs.Ytgkebobmfagklaa
open Go.RowKit

/-- What may stand in a name. -/
def letB (n : Int) : Bool := (decide (97 ≤ n) && decide (n ≤ 122)) || (decide (48 ≤ n) && decide (n ≤ 57)) || (n == 45)
/-- The byte at a place. -/
def byteAt (s : ByteArray) (i : Nat) : Nat := if h : i < s.size then (s[i]'h).toNat else 0
/-- The first k bytes may stand in a name. -/
def nameTo (s : ByteArray) (k : Nat) : Bool := (List.range k).all fun i => letB (byteAt s i)
/-- A name. -/
def nameB (s : ByteArray) : Bool := inB s.size 1 8 && nameTo s s.size
theorem nameTo_zero (s : ByteArray) : nameTo s 0 = true := rfl
theorem nameTo_succ (s : ByteArray) (k : Nat) : nameTo s (k + 1) = (nameTo s k && letB (byteAt s k)) := by
  simp [nameTo, List.range_succ, List.all_append]
theorem nameTo_not {s : ByteArray} {k n : Nat} (hk : k < n) (h : letB (byteAt s k) = false) : nameTo s n = false := by
  unfold nameTo
  rw [List.all_eq_false]
  exact ⟨k, by simpa using hk, by simp [h]⟩
theorem byteAt_lt {s : ByteArray} {i : Nat} (h : i < s.size) : byteAt s i = (s[i]'h).toNat := by simp [byteAt, h]
theorem letB_high {n : Int} (h : 128 ≤ n) : letB n = false := by simp [letB]; omega

set_option maxHeartbeats 1000000 in
theorem nameS_any (s : ByteArray) (w : World) :
    Calls Try.prog 13 #[.string s] w fun e w' => e = .returned (.bool (nameB s)) ∧ w' = w := by
  cases hn : inB s.size 1 8 with
  | false =>
    have G : Hid (nameB s = false) := by show _ = _; unfold nameB; rw [hn]; rfl
    go_enter Try.func13, Try.ntmps13
    go_wp2_with (go_at_call 29; refine (pin_any _ _ _ _).mono ?_; rintro e w' ⟨rfl, rfl⟩)
    go_ret
    exact ⟨by rw [G.out]; rfl, rfl⟩
  | true =>
    have G : Hid (nameB s = nameTo s s.size) := by show _ = _; unfold nameB; rw [hn]; rfl
    have hs : s.size ≤ 8 := by have := (inB_iff _ _ _).1 hn; omega
    go_enter Try.func13, Try.ntmps13
    go_wp2_with (go_at_call 29; refine (pin_any _ _ _ _).mono ?_; rintro e w' ⟨rfl, rfl⟩)
    go_loopw [3] (fun v wr => ∃ k : Nat, k ≤ s.size ∧ v = .int .i64 k ∧ wr = w' ∧ nameTo s k = true) (fun v _ => s.size - (intOf v).toNat)
    case atStart => exact ⟨0, Nat.zero_le _, rfl, rfl, nameTo_zero s⟩
    case round =>
      obtain ⟨k, hk, rfl, rfl, hg⟩ := hrel
      have HG : Hid (nameTo s k = true) := hg
      clear hg hn
      by_cases hlt : k < s.size
      · obtain ⟨n, HN, hix⟩ : ∃ n : Int, Hid (letB n = letB (byteAt s k)) ∧ ∀ wx : World, (Instr.index 9 (.string s) (.int .i64 k)).run Try.prog wx = .ok (.int .u8 n) wx :=
          ⟨(byteAt s k : Int), rfl, fun wx => by rw [run_index_string _ _ _ _ _ Try.underlying9, dif_pos ⟨by omega, by omega⟩, byteAt_lt hlt]; simp⟩
        rcases (show (97 ≤ n ∧ n ≤ 122) ∨ (97 ≤ n ∧ ¬ n ≤ 122 ∧ 48 ≤ n ∧ ¬ n ≤ 57 ∧ ¬ n = 45) ∨ (¬ 97 ≤ n ∧ 48 ≤ n ∧ n ≤ 57) ∨ (¬ 97 ≤ n ∧ 48 ≤ n ∧ ¬ n ≤ 57 ∧ ¬ n = 45) ∨ (¬ 97 ≤ n ∧ ¬ 48 ≤ n ∧ n = 45) ∨ (¬ 97 ≤ n ∧ ¬ 48 ≤ n ∧ ¬ n = 45) by omega) with ⟨h1, h2⟩ | ⟨h1, h2, h3, h4, h5⟩ | ⟨h1, h2, h3⟩ | ⟨h1, h2, h3, h5⟩ | ⟨h1, h2, h3⟩ | ⟨h1, h2, h3⟩
        · have G1 : Hid (letB (byteAt s k) = true) := by show _ = _; rw [← HN.out]; simp [letB]; omega
          have h9 : (n == 45) = false := by simp; omega
          go_wp2
          go_roundw
          case rel => exact ⟨k + 1, by omega, by go_num, trivial, by rw [nameTo_succ, HG.out, G1.out]; rfl⟩
          case measure => simp [intOf]; omega
        · have G1 : Hid (letB (byteAt s k) = false) := by show _ = _; rw [← HN.out]; simp [letB]; omega
          have h9 : (n == 45) = false := by simp; omega
          go_wp2
          go_ret
          exact ⟨by rw [G.out, nameTo_not hlt G1.out]; rfl, rfl⟩
        · have G1 : Hid (letB (byteAt s k) = true) := by show _ = _; rw [← HN.out]; simp [letB]; omega
          have h9 : (n == 45) = false := by simp; omega
          go_wp2
          go_roundw
          case rel => exact ⟨k + 1, by omega, by go_num, trivial, by rw [nameTo_succ, HG.out, G1.out]; rfl⟩
          case measure => simp [intOf]; omega
        · have G1 : Hid (letB (byteAt s k) = false) := by show _ = _; rw [← HN.out]; simp [letB]; omega
          have h9 : (n == 45) = false := by simp; omega
          go_wp2
          go_ret
          exact ⟨by rw [G.out, nameTo_not hlt G1.out]; rfl, rfl⟩
        · have G1 : Hid (letB (byteAt s k) = true) := by show _ = _; rw [← HN.out]; simp [letB]; omega
          have h9 : (n == 45) = true := by simp; omega
          go_wp2
          go_roundw
          case rel => exact ⟨k + 1, by omega, by go_num, trivial, by rw [nameTo_succ, HG.out, G1.out]; rfl⟩
          case measure => simp [intOf]; omega
        · have G1 : Hid (letB (byteAt s k) = false) := by show _ = _; rw [← HN.out]; simp [letB]; omega
          have h9 : (n == 45) = false := by simp; omega
          go_wp2
          go_ret
          exact ⟨by rw [G.out, nameTo_not hlt G1.out]; rfl, rfl⟩
      · obtain rfl : k = s.size := by omega
        go_wp2
        go_ret
        exact ⟨by rw [G.out, HG.out]; rfl, rfl⟩
end Go.Proofs.Ytgkebobmfagklaa

namespace Go.Proofs.Ytgkebobmfagklaa
open Go.RowKit

theorem bel1 {w : World} (c1 : Obj) : Below w.heap.size w (w.alloc c1) := (Below.refl w.heap.size w).alloc (Nat.le_refl _) _
theorem bel2 {w : World} (c1 c2 : Obj) : Below w.heap.size w ((w.alloc c1).alloc c2) := (bel1 c1).alloc (by simp) _
theorem bel3 {w : World} (c1 c2 c3 : Obj) : Below w.heap.size w (((w.alloc c1).alloc c2).alloc c3) := (bel2 c1 c2).alloc (by simp; omega) _
end Go.Proofs.Ytgkebobmfagklaa

namespace Go.Proofs.Ytgkebobmfagklaa
open Go.RowKit

/-- A path, as an argument. -/
structure Pt where
  q : Int
  s : Int
  fr : Int
  b : Int
  a : Option Addr
  b0 : Nat
  o : Nat
  cap : Nat
  l : List Stp
abbrev Pt.val (p : Pt) : Value := .agg #[.int .i64 p.q, .int .i64 p.s, .slice p.a p.l.length p.cap, .int .i64 p.fr, .int .i64 p.b]
abbrev Pt.put (p : Pt) (g : Nat) : Pt := ⟨p.q, p.s, p.fr, p.b, some ⟨g, 0, none⟩, g, 0, p.l.length, p.l⟩
/-- Its steps lie there. -/
abbrev PtAt (w : World) (p : Pt) : Prop := StepsAt w p.a p.b0 p.o p.l
abbrev Pt.fly (p : Pt) : Bool := flyB p.q p.s p.fr p.b p.l
/-- Nothing. -/
def Pt.none (p : Pt) : Bool := (p.q == 0 && p.s == 0) && decide (p.l.length = 0) && (p.fr == 0) && (p.b == 0)
/-- A word. -/
structure Wd where
  k : Int
  nm : ByteArray
  n : Int
  p : Pt
abbrev Wd.val (t : Wd) : Value := .agg #[.int .i64 t.k, .string t.nm, .int .i64 t.n, .int .i64 t.p.q, .int .i64 t.p.s, .slice t.p.a t.p.l.length t.p.cap, .int .i64 t.p.fr, .int .i64 t.p.b]
abbrev Wd.put (t : Wd) (g : Nat) : Wd := ⟨t.k, t.nm, t.n, t.p.put g⟩
def Wd.okB (t : Wd) : Bool := inB t.k 1 6 && nameB t.nm && inB t.n 1 1000000 && (if t.k ≤ 2 then t.p.fly else t.p.none)

/-- A word's box. -/
structure WdIn (W : World) (B : Nat) (t : Wd) : Prop where
  lt : B < W.heap.size
  c0 : W.cell? ⟨B, 0, none⟩ = some (.int .i64 t.k)
  c1 : W.cell? ⟨B, 1, none⟩ = some (.string t.nm)
  c2 : W.cell? ⟨B, 2, none⟩ = some (.int .i64 t.n)
  c3 : W.cell? ⟨B, 3, none⟩ = some (.int .i64 t.p.q)
  c4 : W.cell? ⟨B, 4, none⟩ = some (.int .i64 t.p.s)
  c5 : W.cell? ⟨B, 5, none⟩ = some (.slice t.p.a t.p.l.length t.p.cap)
  c6 : W.cell? ⟨B, 6, none⟩ = some (.int .i64 t.p.fr)
  c7 : W.cell? ⟨B, 7, none⟩ = some (.int .i64 t.p.b)
theorem WdIn.keep {W W' : World} {B N : Nat} {t : Wd} (h : WdIn W B t) (hb : Below N W W') (hN : B < N) : WdIn W' B t where
  lt := Nat.lt_of_lt_of_le h.lt hb.size
  c0 := (hb.cell (p := ⟨B, 0, none⟩) hN).trans h.c0
  c1 := (hb.cell (p := ⟨B, 1, none⟩) hN).trans h.c1
  c2 := (hb.cell (p := ⟨B, 2, none⟩) hN).trans h.c2
  c3 := (hb.cell (p := ⟨B, 3, none⟩) hN).trans h.c3
  c4 := (hb.cell (p := ⟨B, 4, none⟩) hN).trans h.c4
  c5 := (hb.cell (p := ⟨B, 5, none⟩) hN).trans h.c5
  c6 := (hb.cell (p := ⟨B, 6, none⟩) hN).trans h.c6
  c7 := (hb.cell (p := ⟨B, 7, none⟩) hN).trans h.c7
theorem WdIn.new (w : World) (t : Wd) (T : TypeId) : WdIn (w.alloc (.cells #[.int .i64 t.k, .string t.nm, .int .i64 t.n, .int .i64 t.p.q, .int .i64 t.p.s, .slice t.p.a t.p.l.length t.p.cap, .int .i64 t.p.fr, .int .i64 t.p.b] T)) w.heap.size t where
  lt := by simp
  c0 := by simp [go_sem]
  c1 := by simp [go_sem]
  c2 := by simp [go_sem]
  c3 := by simp [go_sem]
  c4 := by simp [go_sem]
  c5 := by simp [go_sem]
  c6 := by simp [go_sem]
  c7 := by simp [go_sem]
end Go.Proofs.Ytgkebobmfagklaa

namespace Go.Proofs.Ytgkebobmfagklaa
open Go.RowKit

theorem toStep_any (x y lo hi fr b : Int) (ho : Bool) (w : World) :
    Calls Try.prog 53 #[.agg #[.int .i64 x, .int .i64 y, .int .i64 lo, .int .i64 hi, .int .i64 fr, .int .i64 b, .bool ho]] w
      fun e w' => e = .returned (.agg #[.int .i64 x, .int .i64 y, .int .i64 lo, .int .i64 hi, .int .i64 fr, .int .i64 b, .bool ho]) ∧ Below w.heap.size w w' := by
  go_enter Try.func53, Try.ntmps53
  go_wp2
  refine bodyPost_ret (v := .agg #[.int .i64 x, .int .i64 y, .int .i64 lo, .int .i64 hi, .int .i64 fr, .int .i64 b, .bool ho]) (by simp [results, Try.results53, go_sem]) rfl ⟨rfl, ?_⟩
  exact (((Below.refl _ _).alloc (Nat.le_refl _) _).alloc (by simp) _).alloc (by simp; omega) _

theorem toKind_any (q s : Int) (w : World) :
    Calls Try.prog 36 #[.agg #[.int .i64 q, .int .i64 s]] w fun e w' => e = .returned (.agg #[.int .i64 q, .int .i64 s]) ∧ Below w.heap.size w w' := by
  go_enter Try.func36, Try.ntmps36
  go_wp2
  refine bodyPost_ret (v := .agg #[.int .i64 q, .int .i64 s]) (by simp [results, Try.results36, go_sem]) rfl ⟨rfl, ?_⟩
  exact (((Below.refl _ _).alloc (Nat.le_refl _) _).alloc (by simp) _).alloc (by simp; omega) _


set_option maxHeartbeats 1000000 in
theorem toSteps_more (a : Option Addr) (b o cap : Nat) (l : List Stp) (w : World) (hl : l.length ≤ 1048576) (hs : StepsAt w a b o l) :
    Calls Try.prog 37 #[.slice a l.length cap] w
      fun e w' => ∃ g, e = .returned (.slice (some ⟨g, 0, none⟩) l.length l.length) ∧ w.heap.size ≤ g ∧ g < w'.heap.size ∧ StepsAt w' (some ⟨g, 0, none⟩) g 0 l ∧ Below w.heap.size w w' ∧ ∀ i, i < l.length → w'.there g (i * 7) 7 := by
  obtain ⟨i0, hi, hz0, hz1, hz2⟩ := info_parts step_info
  go_enter Try.func37, Try.ntmps37
  go_wp2_with (first | (at_make; refine wpList_make_full _ rfl _ _ 32 rfl w.heap.size 75 i0 _ 7 Try.underlying32 hi hz0 hz1 .i64 .i64 _ _ l.length rfl rfl rfl rfl (by rw [hz2]; omega) (by unfold maxLen; omega) (Nat.le_refl _) ?_; intro w1 hown1 hgrow1))
  have hz : (madeCells (Value.agg #[.int .i64 0, .int .i64 0, .int .i64 0, .int .i64 0, .int .i64 0, .int .i64 0, .bool false]).cells (l.length * 7)).toList.length = l.length * 7 := hown1.1
  obtain ⟨hlen1, hrow1⟩ := hown1
  have hb1 : Below w.heap.size w w1 := (Below.refl _ _).grown hgrow1 (Nat.le_refl _) (fun k e => by cases e)
  obtain ⟨cur, hcur, hsz⟩ : ∃ cur, w1.heap[w.heap.size]? = some (.cells cur 75 (0, 0)) ∧ cur.size = l.length * 7 := by
    rcases hrow1 with ⟨h, _⟩ | ⟨g, cap, cur, h, _, hh, _, _, hs, _⟩
    · cases h
    · simp at h
      obtain ⟨rfl, rfl⟩ := h
      exact ⟨cur, hh, hs⟩
  clear hlen1 hrow1 hz hgrow1
  have hth : ∀ i, i < l.length → w1.there w.heap.size (i * 7) 7 := fun i hi => there_of_block hcur _ _ (by omega)
  have hgr1 : w.heap.size < w1.heap.size := lt_of_block hcur
  go_loopw [4] (fun v wr => ∃ k : Nat, k ≤ l.length ∧ v = .int .i64 k ∧ Below w.heap.size w wr ∧ w.heap.size < wr.heap.size ∧ (∀ i, i < l.length → wr.there w.heap.size (i * 7) 7) ∧ (∀ (i : Nat) (s : Stp), i < k → l[i]? = some s → wr.rangeAt w.heap.size (i * 7) s.cells))
    (fun v _ => l.length - (intOf v).toNat)
  case atStart => exact ⟨0, Nat.zero_le _, rfl, hb1, hgr1, hth, fun i s h => absurd h (by omega)⟩
  case round =>
    obtain ⟨k, hk, rfl, hb, hgr, hthr, hdone⟩ := hrel
    by_cases hlt : k < l.length
    · obtain ⟨s, hsk⟩ : ∃ s, l[k]? = some s := ⟨l[k], List.getElem?_eq_getElem hlt⟩
      have hne : l ≠ [] := by intro e; subst e; simp at hlt
      obtain rfl := hs.here hne
      have hbw := hs.lt hne
      obtain ⟨c0, c1, c2, c3, c4, c5, c6⟩ := (hs.below hb (fun _ => hbw)).seven hsk
      go_wp2_with fail
      refine (toStep_any _ _ _ _ _ _ _ _).mono ?_
      rintro e w2 ⟨rfl, hb2⟩
      have hth2 : w2.there w.heap.size (k * 7) 7 := there_below (hthr k hlt) hb2 hgr
      have HT : Hid (w2.there w.heap.size (k * 7) 7) := hth2
      go_wp2_with (refine store_step rfl (.tmp 21) (.tmp 20) rfl w.heap.size (k * 7) s rfl rfl hth2 ?_; clear hth2)
      go_roundw
      case rel =>
        refine ⟨k + 1, by omega, by go_num, below_setCells (Nat.le_refl _) _ _ _ _ (hb.trans (hb2.mono (by have := hb.size; omega))), ?_, ?_, ?_⟩
        · rw [size_setCells]; have := hb2.size; omega
        · intro i hi
          exact World.there_setCells (there_below (hthr i hi) hb2 hgr) _ _ _
        · intro i s' hi hs'
          by_cases hik : i = k
          · subst hik
            obtain rfl : s = s' := by rw [hsk] at hs'; simpa using hs'
            exact World.rangeAt_setCells_same _ _ _ _ HT.out
          · exact World.rangeAt_setCells_apart (range_below (hdone i s' (by omega) hs') hb2 hgr) _ _ _ (by right; left; simp; omega)
      case measure => simp [intOf]; omega
    · have hkl : k = l.length := by omega
      subst hkl
      go_wp2
      go_ret
      exact ⟨w.heap.size, rfl, Nat.le_refl _, hgr, ⟨fun _ => rfl, fun _ => hgr, fun i s hi => by simpa using hdone i s (List.getElem?_eq_some_iff.1 hi).1 hi⟩, hb, hthr⟩

theorem toSteps_any (a : Option Addr) (b o cap : Nat) (l : List Stp) (w : World) (hl : l.length ≤ 1048576) (hs : StepsAt w a b o l) :
    Calls Try.prog 37 #[.slice a l.length cap] w
      fun e w' => ∃ g, e = .returned (.slice (some ⟨g, 0, none⟩) l.length l.length) ∧ w.heap.size ≤ g ∧ g < w'.heap.size ∧ StepsAt w' (some ⟨g, 0, none⟩) g 0 l ∧ Below w.heap.size w w' :=
  (toSteps_more a b o cap l w hl hs).mono fun _ _ ⟨g, h1, h2, h3, h4, h5, _⟩ => ⟨g, h1, h2, h3, h4, h5⟩
end Go.Proofs.Ytgkebobmfagklaa

namespace Go.Proofs.Ytgkebobmfagklaa
open Go.RowKit


/-- A store anywhere leaves places that can be written. -/
theorem there_set {w : World} {b o n : Nat} (h : w.there b o n) (pb po : Nat) (v : Value) : (w.setCell ⟨pb, po, none⟩ v).there b o n := World.there_setCells h pb po [v]

theorem szSteps_any (a : Option Addr) (n cap : Nat) (left : Int) (w : World) (hn : n ≤ maxLen) (h0 : -1 ≤ left) (h1 : left ≤ 1048576) :
    Calls Try.prog 28 #[.slice a n cap, .int .i64 left] w fun e w' => e = .returned (.int .i64 (leftB left n)) ∧ w' = w := by
  unfold maxLen at hn
  by_cases h : left - n < 0
  · go_enter Try.func28, Try.ntmps28
    go_wp2
    go_ret
    exact ⟨by simp [leftB, h], rfl⟩
  · go_enter Try.func28, Try.ntmps28
    go_wp2
    go_ret
    exact ⟨by rw [leftB, if_neg (by omega)]; rfl, rfl⟩


theorem szPath_any (q s fr b : Int) (a : Option Addr) (n cap : Nat) (left : Int) (w : World) (hn : n ≤ maxLen) (h0 : -1 ≤ left) (h1 : left ≤ 1048576) :
    Calls Try.prog 11 #[.agg #[.int .i64 q, .int .i64 s, .slice a n cap, .int .i64 fr, .int .i64 b], .int .i64 left] w fun e w' => e = .returned (.int .i64 (leftB left n)) ∧ Below w.heap.size w w' := by
  have hb := (Below.refl w.heap.size w).alloc (Nat.le_refl _) (.cells #[.int .i64 q, .int .i64 s, .slice a n cap, .int .i64 fr, .int .i64 b] 26)
  obtain ⟨k0, _⟩ := leftB_left left n h0 h1
  by_cases h : leftB left n < 0
  · have e1 : leftB left n = -1 := by omega
    go_enter Try.func11, Try.ntmps11
    go_wp2_with (go_at_call 28; refine (szSteps_any _ _ _ _ _ hn h0 h1).mono ?_; rintro e w' ⟨rfl, rfl⟩)
    go_ret
    exact ⟨by rw [e1]; rfl, hb⟩
  · go_enter Try.func11, Try.ntmps11
    go_wp2_with (go_at_call 28; refine (szSteps_any _ _ _ _ _ hn h0 h1).mono ?_; rintro e w' ⟨rfl, rfl⟩)
    go_ret
    exact ⟨rfl, hb⟩

set_option maxHeartbeats 1000000 in
theorem toPath_more (q s fr b : Int) (a : Option Addr) (b0 o cap : Nat) (l : List Stp) (w : World) (hl : l.length ≤ 1048576) (hs : StepsAt w a b0 o l) :
    Calls Try.prog 17 #[.agg #[.int .i64 q, .int .i64 s, .slice a l.length cap, .int .i64 fr, .int .i64 b]] w
      fun e w' => ∃ g, e = .returned (.agg #[.int .i64 q, .int .i64 s, .slice (some ⟨g, 0, none⟩) l.length l.length, .int .i64 fr, .int .i64 b]) ∧ w.heap.size ≤ g ∧ g < w'.heap.size ∧ StepsAt w' (some ⟨g, 0, none⟩) g 0 l ∧ Below w.heap.size w w' ∧ ∀ i, i < l.length → w'.there g (i * 7) 7 := by
  go_enter Try.func17, Try.ntmps17
  go_wp2_with fail
  refine (toKind_any _ _ _).mono ?_
  rintro e w1 ⟨rfl, hb1⟩
  obtain ⟨hc1, hf1⟩ := old_cells hb1
  have hz1 := hb1.size
  simp at hz1
  have hb01 : Below w.heap.size w w1 := ((((Below.refl w.heap.size w).alloc (Nat.le_refl _) _).alloc (by simp) _).alloc (by simp; omega) _).trans (hb1.mono (by simp; omega))
  have hs1 := hs.below hb01 (fun h => hs.lt h)
  go_wp2_with fail
  refine (toSteps_more _ b0 o _ _ _ hl ?_).mono ?_
  · exact hs.below ((hb01.setCell (by simp; omega) _).setCell (by simp; omega) _) (fun h => hs.lt h)
  rintro e w2 ⟨g, rfl, hg1, hg2, hs2, hb2, hth⟩
  have HTH : Hid (∀ i, i < l.length → w2.there g (i * 7) 7) := hth
  clear hth
  obtain ⟨hc2, hf2⟩ := old_cells hb2
  have hz2 := hb2.size
  simp [World.setCell] at hz2 hg1
  have hb02 : Below w.heap.size w w2 := ((hb01.setCell (by simp; omega) _).setCell (by simp; omega) _).trans (hb2.mono (by simp [World.setCell]; omega))
  have hC1 : ∀ b o, b < w.heap.size + 3 → w1.cell? ⟨b, o, none⟩ = _ := fun b o h => hc1 b o (by simp; omega)
  have hF1 : ∀ b o, b < w.heap.size + 3 → w1.frozen? ⟨b, o, none⟩ = _ := fun b o h => hf1 b o (by simp; omega)
  have hC2 : ∀ b o, b < w.heap.size + 3 → w2.cell? ⟨b, o, none⟩ = _ := fun b o h => hc2 b o (by simp [World.setCell]; omega)
  have hF2 : ∀ b o, b < w.heap.size + 3 → w2.frozen? ⟨b, o, none⟩ = _ := fun b o h => hf2 b o (by simp [World.setCell]; omega)
  clear hc1 hf1 hc2 hf2
  have a3 : w2.cell? ⟨w.heap.size, 3, none⟩ = some (.int .i64 fr) := by rw [hC2 _ _ (by omega)]; simp [go_sem, hC1]
  have a4 : w2.cell? ⟨w.heap.size, 4, none⟩ = some (.int .i64 b) := by rw [hC2 _ _ (by omega)]; simp [go_sem, hC1]
  have o0 : w2.cell? ⟨w.heap.size + 1 + 1, 0, none⟩ = some (.int .i64 q) := by rw [hC2 _ _ (by omega)]; simp [go_sem, hC1]
  have o1 : w2.cell? ⟨w.heap.size + 1 + 1, 1, none⟩ = some (.int .i64 s) := by rw [hC2 _ _ (by omega)]; simp [go_sem, hC1]
  have o2 : w2.cell? ⟨w.heap.size + 1 + 1, 2, none⟩ = some (.slice none 0 0) := by rw [hC2 _ _ (by omega)]; simp [go_sem, hC1]
  have o3 : w2.cell? ⟨w.heap.size + 1 + 1, 3, none⟩ = some (.int .i64 0) := by rw [hC2 _ _ (by omega)]; simp [go_sem, hC1]
  have o4 : w2.cell? ⟨w.heap.size + 1 + 1, 4, none⟩ = some (.int .i64 0) := by rw [hC2 _ _ (by omega)]; simp [go_sem, hC1]
  have fo : ∀ j, w2.frozen? ⟨w.heap.size + 1 + 1, j, none⟩ = false := by intro j; rw [hF2 _ _ (by omega)]; simp [go_sem, hF1]
  have r0 : w2.cell? ⟨w.heap.size + 1, 0, none⟩ = some (.int .i64 0) := by rw [hC2 _ _ (by omega)]; simp [go_sem, hC1]
  have r1 : w2.cell? ⟨w.heap.size + 1, 1, none⟩ = some (.int .i64 0) := by rw [hC2 _ _ (by omega)]; simp [go_sem, hC1]
  have r2 : w2.cell? ⟨w.heap.size + 1, 2, none⟩ = some (.slice none 0 0) := by rw [hC2 _ _ (by omega)]; simp [go_sem, hC1]
  have r3 : w2.cell? ⟨w.heap.size + 1, 3, none⟩ = some (.int .i64 0) := by rw [hC2 _ _ (by omega)]; simp [go_sem, hC1]
  have r4 : w2.cell? ⟨w.heap.size + 1, 4, none⟩ = some (.int .i64 0) := by rw [hC2 _ _ (by omega)]; simp [go_sem, hC1]
  have fr1 : ∀ j, w2.frozen? ⟨w.heap.size + 1, j, none⟩ = false := by intro j; rw [hF2 _ _ (by omega)]; simp [go_sem, hF1]
  clear hC1 hC2 hF1 hF2 hs1 hb01 hb1 hs
  go_wp2
  refine bodyPost_ret (v := .agg #[.int .i64 q, .int .i64 s, .slice (some ⟨g, 0, none⟩) l.length l.length, .int .i64 fr, .int .i64 b]) (by simp [results, Try.results17, go_sem, *]) rfl ⟨g, rfl, by omega, ?_, ?_, ?_, ?_⟩
  · simpa [World.setCell] using hg2
  · iterate 8 (refine StepsAt.set ?_ (by simp; omega) _)
    exact hs2
  · iterate 8 (refine Below.setCell ?_ (by simp <;> omega) _)
    exact hb02
  · intro i hi
    iterate 8 (refine there_set ?_ _ _ _)
    exact HTH.out i hi

theorem toPath_any (q s fr b : Int) (a : Option Addr) (b0 o cap : Nat) (l : List Stp) (w : World) (hl : l.length ≤ 1048576) (hs : StepsAt w a b0 o l) :
    Calls Try.prog 17 #[.agg #[.int .i64 q, .int .i64 s, .slice a l.length cap, .int .i64 fr, .int .i64 b]] w
      fun e w' => ∃ g, e = .returned (.agg #[.int .i64 q, .int .i64 s, .slice (some ⟨g, 0, none⟩) l.length l.length, .int .i64 fr, .int .i64 b]) ∧ w.heap.size ≤ g ∧ g < w'.heap.size ∧ StepsAt w' (some ⟨g, 0, none⟩) g 0 l ∧ Below w.heap.size w w' :=
  (toPath_more q s fr b a b0 o cap l w hl hs).mono fun _ _ ⟨g, h1, h2, h3, h4, h5, _⟩ => ⟨g, h1, h2, h3, h4, h5⟩
end Go.Proofs.Ytgkebobmfagklaa

namespace Go.Proofs.Ytgkebobmfagklaa
open Go.RowKit

theorem eqKind_same (q s : Int) (w : World) :
    Calls Try.prog 43 #[.agg #[.int .i64 q, .int .i64 s], .agg #[.int .i64 q, .int .i64 s]] w fun e w' => e = .returned (.bool true) ∧ Below w.heap.size w w' := by
  go_enter Try.func43, Try.ntmps43
  go_wp2
  go_ret
  exact ⟨rfl, ((Below.refl _ _).alloc (Nat.le_refl _) _).alloc (by simp) _⟩

theorem eqStep_same (x y lo hi fr b : Int) (ho : Bool) (w : World) :
    Calls Try.prog 56 #[.agg #[.int .i64 x, .int .i64 y, .int .i64 lo, .int .i64 hi, .int .i64 fr, .int .i64 b, .bool ho], .agg #[.int .i64 x, .int .i64 y, .int .i64 lo, .int .i64 hi, .int .i64 fr, .int .i64 b, .bool ho]] w
      fun e w' => e = .returned (.bool true) ∧ Below w.heap.size w w' := by
  go_enter Try.func56, Try.ntmps56
  go_wp2
  go_ret
  exact ⟨rfl, ((Below.refl _ _).alloc (Nat.le_refl _) _).alloc (by simp) _⟩

set_option maxHeartbeats 1000000 in
theorem eqSteps_same (a a' : Option Addr) (b o cap b' o' cap' : Nat) (l : List Stp) (w : World) (hl : l.length ≤ 1048576) (hs : StepsAt w a b o l) (hs' : StepsAt w a' b' o' l) :
    Calls Try.prog 44 #[.slice a l.length cap, .slice a' l.length cap'] w fun e w' => e = .returned (.bool true) ∧ Below w.heap.size w w' := by
  go_enter Try.func44, Try.ntmps44
  go_wp2
  go_loopw [5] (fun v wr => ∃ k : Nat, k ≤ l.length ∧ v = .int .i64 k ∧ Below w.heap.size w wr) (fun v _ => l.length - (intOf v).toNat)
  case atStart => exact ⟨0, Nat.zero_le _, rfl, Below.refl _ _⟩
  case round =>
    obtain ⟨k, hk, rfl, hb⟩ := hrel
    by_cases hlt : k < l.length
    · obtain ⟨s, hsk⟩ : ∃ s, l[k]? = some s := ⟨l[k], List.getElem?_eq_getElem hlt⟩
      have hne : l ≠ [] := by intro e; subst e; simp at hlt
      obtain rfl := hs.here hne
      obtain rfl := hs'.here hne
      have hbw := hs.lt hne
      have hbw' := hs'.lt hne
      obtain ⟨c0, c1, c2, c3, c4, c5, c6⟩ := (hs.below hb (fun _ => hbw)).seven hsk
      obtain ⟨d0, d1, d2, d3, d4, d5, d6⟩ := (hs'.below hb (fun _ => hbw')).seven hsk
      have k0 : (0 : Int) ≤ (k : Int) := by omega
      have k1 : (k : Int) < (l.length : Int) := by omega
      have hbx : b < wr.heap.size := Nat.lt_of_lt_of_le hbw hb.size
      have hbx' : b' < wr.heap.size := Nat.lt_of_lt_of_le hbw' hb.size
      have HS : Hid (l[k]? = some s) := hsk
      clear hsk
      go_wp2
      go_region_held3 (fun w' => w'.cell? ⟨b, o + k * 7, none⟩ = some (.int .i64 s.x) ∧ w'.cell? ⟨b, o + k * 7 + 1, none⟩ = some (.int .i64 s.y) ∧ w'.cell? ⟨b, o + k * 7 + 2, none⟩ = some (.int .i64 s.lo) ∧ w'.cell? ⟨b, o + k * 7 + 3, none⟩ = some (.int .i64 s.hi) ∧ w'.cell? ⟨b, o + k * 7 + 4, none⟩ = some (.int .i64 s.fr) ∧ w'.cell? ⟨b, o + k * 7 + 5, none⟩ = some (.int .i64 s.by_) ∧ w'.cell? ⟨b, o + k * 7 + 6, none⟩ = some (.bool s.ho) ∧
        w'.cell? ⟨b', o' + k * 7, none⟩ = some (.int .i64 s.x) ∧ w'.cell? ⟨b', o' + k * 7 + 1, none⟩ = some (.int .i64 s.y) ∧ w'.cell? ⟨b', o' + k * 7 + 2, none⟩ = some (.int .i64 s.lo) ∧ w'.cell? ⟨b', o' + k * 7 + 3, none⟩ = some (.int .i64 s.hi) ∧ w'.cell? ⟨b', o' + k * 7 + 4, none⟩ = some (.int .i64 s.fr) ∧ w'.cell? ⟨b', o' + k * 7 + 5, none⟩ = some (.int .i64 s.by_) ∧ w'.cell? ⟨b', o' + k * 7 + 6, none⟩ = some (.bool s.ho))
        (simp [go_sem, *])
        (first | (go_at_call 56; refine (eqStep_same _ _ _ _ _ _ _ _).mono ?_; rintro e w1 ⟨rfl, hb1⟩; have hc1 : ∀ j, w1.cell? ⟨b, j, none⟩ = wr.cell? ⟨b, j, none⟩ := fun j => hb1.cell (p := ⟨b, j, none⟩) hbx; have hc2 : ∀ j, w1.cell? ⟨b', j, none⟩ = wr.cell? ⟨b', j, none⟩ := fun j => hb1.cell (p := ⟨b', j, none⟩) hbx'))
      go_wp2
      go_roundw
      case rel => exact ⟨k + 1, by omega, by go_num, hb.drew.trans (hb1.mono hb.size)⟩
      case measure => simp [intOf]; omega
    · go_wp2
      go_ret
      exact ⟨rfl, hb⟩

set_option maxHeartbeats 1000000 in
theorem eqPath_same (q s fr b : Int) (a a' : Option Addr) (b0 o cap b0' o' cap' : Nat) (l : List Stp) (w : World) (hl : l.length ≤ 1048576) (hs : StepsAt w a b0 o l) (hs' : StepsAt w a' b0' o' l) :
    Calls Try.prog 22 #[.agg #[.int .i64 q, .int .i64 s, .slice a l.length cap, .int .i64 fr, .int .i64 b], .agg #[.int .i64 q, .int .i64 s, .slice a' l.length cap', .int .i64 fr, .int .i64 b]] w
      fun e w' => e = .returned (.bool true) ∧ Below w.heap.size w w' := by
  go_enter Try.func22, Try.ntmps22
  go_wp2_with fail
  refine (eqKind_same _ _ _).mono ?_
  rintro e w1 ⟨rfl, hb1⟩
  obtain ⟨hc1, _⟩ := old_cells hb1
  have hz1 := hb1.size
  simp at hz1
  have hb01 : Below w.heap.size w w1 := (((Below.refl w.heap.size w).alloc (Nat.le_refl _) _).alloc (by simp) _).trans (hb1.mono (by simp; omega))
  have hC1 : ∀ b o, b < w.heap.size + 2 → w1.cell? ⟨b, o, none⟩ = _ := fun b o h => hc1 b o (by simp; omega)
  have a2 : w1.cell? ⟨w.heap.size, 2, none⟩ = some (.slice a l.length cap) := by rw [hC1 _ _ (by omega)]; simp [go_sem]
  have a3 : w1.cell? ⟨w.heap.size, 3, none⟩ = some (.int .i64 fr) := by rw [hC1 _ _ (by omega)]; simp [go_sem]
  have a4 : w1.cell? ⟨w.heap.size, 4, none⟩ = some (.int .i64 b) := by rw [hC1 _ _ (by omega)]; simp [go_sem]
  have d2 : w1.cell? ⟨w.heap.size + 1, 2, none⟩ = some (.slice a' l.length cap') := by rw [hC1 _ _ (by omega)]; simp [go_sem]
  have d3 : w1.cell? ⟨w.heap.size + 1, 3, none⟩ = some (.int .i64 fr) := by rw [hC1 _ _ (by omega)]; simp [go_sem]
  have d4 : w1.cell? ⟨w.heap.size + 1, 4, none⟩ = some (.int .i64 b) := by rw [hC1 _ _ (by omega)]; simp [go_sem]
  clear hc1 hC1
  go_wp2_with fail
  refine (eqSteps_same _ _ b0 o _ b0' o' _ _ _ hl (hs.below hb01 hs.lt) (hs'.below hb01 hs'.lt)).mono ?_
  rintro e w2 ⟨rfl, hb2⟩
  have z : w.heap.size + 1 < w1.heap.size := by omega
  have e3 : w2.cell? ⟨w.heap.size, 3, none⟩ = some (.int .i64 fr) := (hb2.cell (p := ⟨w.heap.size, 3, none⟩) (by show w.heap.size < _; omega)).trans a3
  have e4 : w2.cell? ⟨w.heap.size, 4, none⟩ = some (.int .i64 b) := (hb2.cell (p := ⟨w.heap.size, 4, none⟩) (by show w.heap.size < _; omega)).trans a4
  have g3 : w2.cell? ⟨w.heap.size + 1, 3, none⟩ = some (.int .i64 fr) := (hb2.cell (p := ⟨w.heap.size + 1, 3, none⟩) z).trans d3
  have g4 : w2.cell? ⟨w.heap.size + 1, 4, none⟩ = some (.int .i64 b) := (hb2.cell (p := ⟨w.heap.size + 1, 4, none⟩) z).trans d4
  go_wp2
  go_ret
  exact ⟨rfl, hb01.trans (hb2.mono (by omega))⟩
end Go.Proofs.Ytgkebobmfagklaa

namespace Go.Proofs.Ytgkebobmfagklaa
open Go.RowKit

/-- What is left of a measure behind a name and a list. -/
def leftN (left : Int) (z n : Nat) : Int := if left - z < 0 then -1 else leftB (left - z) n
theorem leftN_left (left : Int) (z n : Nat) (h1 : left ≤ 1048576) : -1 ≤ leftN left z n ∧ leftN left z n ≤ 1048576 := by
  unfold leftN leftB; split
  · omega
  · split <;> omega
theorem leftN_small {left : Int} {z n : Nat} (h1 : left ≤ 1048576) (h : 0 ≤ leftN left z n) : n ≤ 1048576 := by
  unfold leftN leftB at h; split at h
  · omega
  · split at h <;> omega
end Go.Proofs.Ytgkebobmfagklaa
