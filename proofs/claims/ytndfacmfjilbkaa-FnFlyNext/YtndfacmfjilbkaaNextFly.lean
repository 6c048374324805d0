/- The program's goingOn and FlyNext, by their contracts, over that of FlySpans. -/
import Derived.Test.YtndfacmfjilbkaaNextClo
import Derived.Test.YtndfacmfjilbkaaJ06
namespace Go.Proofs.Ytndfacmfjilbkaa
open Go.RowKit

theorem flyL_go (q s fr b : Int) (l : List Stp) : flyB q s fr b l = goB q s fr b l [] := by
  unfold flyB goB
  simp [begunB]

set_option maxRecDepth 20000 in
set_option maxHeartbeats 1000000 in
theorem goingOn_any (hI : SpansSaid) (q s fr b : Int) (a : Option Addr) (b0 off cap : Nat) (l : List Stp) (w : World) (hl : l.length ≤ 1048576) (hs : StepsAt w a b0 off l) :
    Calls Try.prog 51 #[.agg #[.int .i64 q, .int .i64 s, .slice a l.length cap, .int .i64 fr, .int .i64 b]] w
      fun e w' => ∃ g scap Bo v, e = .returned (.func (.func 71) #[] #[.pointer (some ⟨w.heap.size, 0, none⟩), .pointer (some ⟨Bo, 0, none⟩)]) ∧ Below w.heap.size w w' ∧
        PathAt w' w.heap.size q s fr b (.slice a l.length cap) ∧ Boxed w' Bo 31 v ∧ OpenV w' q s fr b l (w.heap.size + 1) g scap [] v ∧ w.heap.size < g ∧ w.heap.size < Bo ∧ (goB q s fr b l [] = true → g ≠ Bo) ∧ g < w'.heap.size := by
  have hP0 := PathAt.new w q s fr b (.slice a l.length cap)
  go_enter Try.func51, Try.ntmps51
  go_wp2_with fail
  refine (hI q s fr b a b0 off cap l _ hl (hs.alloc _)).mono ?_
  rintro e w1 ⟨v, rfl, hown, hb1⟩
  have hP1 := hP0.keep hb1 (by simp)
  have z1 := hP1.lt
  have hb01 : Below w.heap.size w w1 := ((Below.refl w.heap.size w).alloc (Nat.le_refl _) _).trans (hb1.mono (by simp))
  have hvs : ∃ va vn vc, v = .slice va vn vc := by
    rcases hown.2 with ⟨rfl, _⟩ | ⟨g, c, _, rfl, _⟩ <;> exact ⟨_, _, _, rfl⟩
  obtain ⟨va, vn, vc, rfl⟩ := hvs
  go_wp2
  go_ret
  have hal : Below w1.heap.size w1 (w1.alloc (.cells #[.slice va vn vc] 31)) := (Below.refl w1.heap.size w1).alloc (Nat.le_refl _) _
  have hb02 := hb01.trans (hal.mono hb01.size)
  have hP2 := hP1.keep hal z1
  have hB2 := Boxed.new w1 31 (.slice va vn vc)
  have hsz : (w1.alloc (.cells #[.slice va vn vc] 31)).heap.size = w1.heap.size + 1 := World.size_alloc _ _
  cases hg : goB q s fr b l [] with
  | true =>
    obtain ⟨hp, hsp, _, _⟩ := goB_parts hg
    have hL : flyL q s fr b l = spansL q s fr b l := by unfold flyL; rw [if_pos hp]
    have hn : (spansL q s fr b l).length = l.length + 1 := by unfold spansL; rw [if_pos hsp]; simp
    rw [hL, hn] at hown
    have hown2 := owns_below hown hal
    rw [World.size_alloc] at hown2
    have h22 := hown2.2
    rcases h22 with ⟨e1, e2⟩ | ⟨g, c, cur, h1, h2, h3, h4, _⟩
    · omega
    · cases h1
      have hgl : g < w1.heap.size := (hown.lt g rfl).2
      refine ⟨g, vc, w1.heap.size, _, rfl, hb02, hP2, hB2, ?_, by omega, z1, fun _ => by omega, by omega⟩
      unfold OpenV
      rw [if_pos hg]
      refine ⟨⟨vc, by simpa using h4, rfl⟩, ?_⟩
      rw [show ([] : List Int).length = 0 from rfl, rowG_zero _ hsp]
      exact hown2
  | false =>
    have hL : flyL q s fr b l = [] := by
      rw [← flyL_go] at hg
      unfold flyB at hg
      unfold flyL
      cases hp : pathB q s fr b l with
      | false => rfl
      | true =>
        rw [hp, Bool.true_and] at hg
        unfold spansL
        rw [hg]; rfl
    rw [hL] at hown
    refine ⟨w1.heap.size, 0, w1.heap.size, _, rfl, hb02, hP2, hB2, ?_, z1, z1, (fun h => by cases h), by omega⟩
    unfold OpenV
    rw [if_neg (by rw [hg]; simp)]
    rcases hown.2 with ⟨e1, _⟩ | ⟨g, c, _, e1, _⟩
    · cases e1; exact ⟨_, _, rfl⟩
    · cases e1; exact ⟨_, _, rfl⟩

set_option maxRecDepth 20000 in
set_option maxHeartbeats 1000000 in
theorem flyNext_any (hI : SpansSaid) (q s fr b : Int) (a : Option Addr) (b0 off cap : Nat) (l : List Stp) (c : Option Addr) (cb co ccap : Nat) (zs : List Int) (w : World) (hl : l.length ≤ 1048576) (hzl : zs.length ≤ 1048576) (hs : StepsAt w a b0 off l) (hz : IntsAt w c cb co zs) :
    Calls Try.prog 23 #[.agg #[.int .i64 q, .int .i64 s, .slice a l.length cap, .int .i64 fr, .int .i64 b], .slice c zs.length ccap] w
      fun e w' => e = .returned (.tuple #[.agg #[.int .i64 (goS q s fr b l zs).1, .int .i64 (goS q s fr b l zs).2], .bool (goB q s fr b l zs)]) ∧ Below w.heap.size w w' := by
  have hr0 := Span2.new (w.alloc (.cells #[.int .i64 q, .int .i64 s, .slice a l.length cap, .int .i64 fr, .int .i64 b] 27)) 38
  simp only [World.size_alloc] at hr0
  have hbA : Below w.heap.size w ((w.alloc (.cells #[.int .i64 q, .int .i64 s, .slice a l.length cap, .int .i64 fr, .int .i64 b] 27)).alloc (.cells #[.int .i64 0, .int .i64 0] 38)) := ((Below.refl w.heap.size w).alloc (Nat.le_refl _) _).alloc (by simp) _
  have hz0 := (hz.alloc (.cells #[.int .i64 q, .int .i64 s, .slice a l.length cap, .int .i64 fr, .int .i64 b] 27)).alloc (.cells #[.int .i64 0, .int .i64 0] 38)
  have hs0 := (hs.alloc (.cells #[.int .i64 q, .int .i64 s, .slice a l.length cap, .int .i64 fr, .int .i64 b] 27)).alloc (.cells #[.int .i64 0, .int .i64 0] 38)
  have hsz0 : ((w.alloc (.cells #[.int .i64 q, .int .i64 s, .slice a l.length cap, .int .i64 fr, .int .i64 b] 27)).alloc (.cells #[.int .i64 0, .int .i64 0] 38)).heap.size = w.heap.size + 1 + 1 := by simp
  go_enter Try.func23, Try.ntmps23
  go_wp2_with fail
  refine (goingOn_any hI q s fr b a b0 off cap l _ hl hs0).mono ?_
  rw [hsz0]
  rintro e w1 ⟨g, scap, Bo, v, rfl, hb1, hP1, hB1, hV1, k1, k2, k3, k4⟩
  have hr1 : w1.heap[w.heap.size + 1]? = some (.cells #[.int .i64 0, .int .i64 0] 38 (0, 0)) := (hb1.block _ (by omega)).trans hr0
  have hs1 := hs0.below hb1 (fun h => by have := hs0.lt h; omega)
  have hz1 := hz0.below hb1 (fun h => by have := hz0.lt h; omega)
  have hb01 := hbA.trans (hb1.mono (by omega))
  have sb : l ≠ [] → b0 < w.heap.size := hs.lt
  have zb : zs ≠ [] → cb < w.heap.size := hz.lt
  clear hr0 hbA hz0 hs0 hb1
  go_wp2_with fail
  refine (clo_any q s fr b a b0 off cap l c cb co ccap zs _ g scap (w.heap.size + 1 + 1) Bo [] v w1 hl hzl hs1 hz1 hP1 hB1 hV1 (by omega) (by omega) k3 (fun h => by have := sb h; omega) (fun h => by have := zb h; omega) k4).mono ?_
  rintro e w2 ⟨rfl, hK, v2, hB2, hV2⟩
  rw [List.nil_append]
  have hr2 := (hK.block _ (lt_of_block hr1) (by omega) (by omega)).trans hr1
  obtain ⟨r0, r1, rf⟩ := blk2 hr2
  have hb12 := hK.below (B := w.heap.size) (by have := hb01.size; omega) (by omega) (by omega)
  have hb02 := hb01.trans hb12
  clear hr1 hr2 hK hB2 hV2 hB1 hV1 hP1 hs1 hz1
  go_wp2
  refine bodyPost_ret (v := .tuple #[.agg #[.int .i64 (goS q s fr b l zs).1, .int .i64 (goS q s fr b l zs).2], .bool (goB q s fr b l zs)]) (by simp [results, Try.results23, go_sem, *]) rfl ⟨rfl, ?_⟩
  iterate 2 (refine Below.setCell ?_ (by simp <;> omega) _)
  exact hb02
end Go.Proofs.Ytndfacmfjilbkaa
