/- When the specification says a flight can go on, by its contract. -/
import Derived.Test.YtndfacmfjilbkaiNextSpec
namespace Go.Proofs.Ytndfacmfjilbkai
open Go.RowKit

theorem goS_no {q s fr b : Int} {l : List Stp} {zs : List Int} (h : goB q s fr b l zs = false) : goS q s fr b l zs = (0, 0) := by unfold goS; rw [h]; rfl
theorem goB_path {q s fr b : Int} {l : List Stp} {zs : List Int} (h : pathB q s fr b l = false) : goB q s fr b l zs = false := by unfold goB; rw [h]; rfl
theorem goB_long {q s fr b : Int} {l : List Stp} {zs : List Int} (h : l.length < zs.length) : goB q s fr b l zs = false := by
  unfold goB; rw [decide_eq_false (show ¬ zs.length ≤ l.length by omega)]; simp

theorem Span2.new (w : World) (t : TypeId) : (w.alloc (.cells #[.int .i64 0, .int .i64 0] t)).heap[w.heap.size]? = some (.cells #[.int .i64 0, .int .i64 0] t (0, 0)) := heap_alloc_new w _

set_option maxRecDepth 20000 in
set_option maxHeartbeats 1000000 in
theorem flyNextS_any (q s fr b : Int) (a : Option Addr) (b0 o cap : Nat) (l : List Stp) (c : Option Addr) (cb co ccap : Nat) (zs : List Int) (w : World) (hl : l.length ≤ 1048576) (hzl : zs.length ≤ 1048576) (hs : StepsAt w a b0 o l) (hz : IntsAt w c cb co zs) :
    Calls Try.prog 7 #[.agg #[.int .i64 q, .int .i64 s, .slice a l.length cap, .int .i64 fr, .int .i64 b], .slice c zs.length ccap] w
      fun e w' => e = .returned (.tuple #[.agg #[.int .i64 (goS q s fr b l zs).1, .int .i64 (goS q s fr b l zs).2], .bool (goB q s fr b l zs)]) ∧ Below w.heap.size w w' := by
  have hx0 := (PathAt.new w q s fr b (.slice a l.length cap)).keep ((Below.refl (w.heap.size + 1) (w.alloc (.cells #[.int .i64 q, .int .i64 s, .slice a l.length cap, .int .i64 fr, .int .i64 b] 36))).alloc (by simp) (.cells #[.int .i64 0, .int .i64 0] 30)) (by omega)
  have hr0 := Span2.new (w.alloc (.cells #[.int .i64 q, .int .i64 s, .slice a l.length cap, .int .i64 fr, .int .i64 b] 36)) 30
  simp only [World.size_alloc] at hr0
  have hbA : Below w.heap.size w ((w.alloc (.cells #[.int .i64 q, .int .i64 s, .slice a l.length cap, .int .i64 fr, .int .i64 b] 36)).alloc (.cells #[.int .i64 0, .int .i64 0] 30)) := ((Below.refl w.heap.size w).alloc (Nat.le_refl _) _).alloc (by simp) _
  go_enter Try.func7, Try.ntmps7
  go_wp2_with fail
  refine (pathS_any _ _ _ _ _ b0 o _ _ _ hl ((hs.alloc _).alloc _)).mono ?_
  rintro e w1 ⟨rfl, hb1⟩
  have hx1 := hx0.keep hb1 (by simp; omega)
  have hr1 := blk2_kept hr0 hb1
  have hb01 := hbA.trans (hb1.mono (by simp only [World.size_alloc]; omega))
  have sz1 : w.heap.size + 1 + 1 ≤ w1.heap.size := by simpa using hb1.size
  clear hx0 hr0 hb1
  obtain ⟨⟨p0, p1, p2, p3, p4⟩, pf⟩ := hx1.cells
  obtain ⟨r0, r1, rf⟩ := blk2 hr1
  cases hp : pathB q s fr b l with
  | false =>
    have e1 := goB_path (zs := zs) hp
    have E : Hid (goS q s fr b l zs = (0, 0) ∧ goB q s fr b l zs = false) := ⟨goS_no e1, e1⟩
    clear e1
    go_wp2
    refine bodyPost_ret (v := .tuple #[.agg #[.int .i64 0, .int .i64 0], .bool false]) (by simp [results, Try.results7, go_sem, *]) rfl ⟨by rw [E.out.1, E.out.2], ?_⟩
    iterate 2 (refine Below.setCell ?_ (by simp <;> omega) _)
    exact hb01
  | true =>
    by_cases hlen : zs.length ≤ l.length
    · have hpl := path_len hp
      obtain ⟨e1, e2⟩ := held_go hp hlen
      have n1 : ¬ ((l.length : Int) < (zs.length : Int)) := by omega
      have hs1 := hs.below hb01 hs.lt
      have hz1 := hz.below hb01 hz.lt
      go_wp2_with fail
      refine (heldS_any _ _ _ _ _ b0 o _ _ _ cb co _ _ _ hpl.1 hl hs1 hz1 hlen).mono ?_
      rintro e w2 ⟨g, gcap, rfl, hown2, hb2⟩
      have hs2 := steps_owned hown2
      have hr2 := blk2_kept hr1 hb2
      have hb02 := hb01.trans (hb2.mono (by omega))
      have hW := held_wide (Wide.of hp) zs hlen
      have hC := spansS_wide q s fr b (some ⟨g, 0, none⟩) g 0 gcap (heldL l zs zs.length) w2 hs2 hW
      rw [heldL_length, e1] at hC
      clear hx1 hr1 hb01 hb2 p0 p1 p2 p3 p4 pf r0 r1 rf hs1 hz1 hown2
      go_wp2_with fail
      refine hC.mono ?_
      rintro e w3 ⟨v, rfl, hown3, hb3⟩
      have hr3 := blk2_kept hr2 hb3
      have sz2 := hb02.size
      have sz3 := hb3.size
      have hb03 := hb02.trans (hb3.mono hb02.size)
      obtain ⟨r0, r1, rf⟩ := blk2 hr3
      clear hC hs2 hr2 hb02 hb3
      cases hg : goB q s fr b l zs with
      | false =>
        have E : Hid (goS q s fr b l zs = (0, 0) ∧ goB q s fr b l zs = false) := ⟨goS_no hg, hg⟩
        clear e1 e2
        go_wp2
        refine bodyPost_ret (v := .tuple #[.agg #[.int .i64 0, .int .i64 0], .bool false]) (by simp [results, Try.results7, go_sem, *]) rfl ⟨by rw [E.out.1, E.out.2], ?_⟩
        iterate 2 (refine Below.setCell ?_ (by simp <;> omega) _)
        exact hb03
      | true =>
        have hget := e2 hg
        have hL : (spansL q s fr b (heldL l zs zs.length)).length = l.length + 1 := by
          rw [hg] at e1
          unfold spansL
          rw [if_pos e1, heldL_length]
          simp
        rw [hL] at hown3
        obtain ⟨g3, c3, rfl, hg3, hg3'⟩ := owns_some hown3 (by omega)
        have x0 := (hown3.cellAt (zs.length * 2) (by omega)).trans (spanCells_get _ _ _ hget).1
        have x1 := (hown3.cellAt (zs.length * 2 + 1) (by omega)).trans (spanCells_get _ _ _ hget).2
        obtain ⟨⟨y0, y1⟩, hy⟩ : ∃ y, goS q s fr b l zs = y := ⟨_, rfl⟩
        rw [hy] at x0 x1
        have E : Hid (goS q s fr b l zs = (y0, y1) ∧ goB q s fr b l zs = true) := ⟨hy, hg⟩
        have m0 : (0 : Int) ≤ (zs.length : Int) := by omega
        have m1 : (zs.length : Int) < (l.length : Int) + 1 := by omega
        clear hget e1 e2 hy hown3 n1
        go_wp2
        refine bodyPost_ret (v := .tuple #[.agg #[.int .i64 y0, .int .i64 y1], .bool true]) (by simp [results, Try.results7, go_sem, *]) rfl ⟨by rw [E.out.1, E.out.2], ?_⟩
        iterate 2 (refine Below.setCell ?_ (by simp <;> omega) _)
        exact hb03
    · have e1 := goB_long (q := q) (s := s) (fr := fr) (b := b) (show l.length < zs.length by omega)
      have E : Hid (goS q s fr b l zs = (0, 0) ∧ goB q s fr b l zs = false) := ⟨goS_no e1, e1⟩
      clear e1
      have n1 : (l.length : Int) < (zs.length : Int) := by omega
      go_wp2
      refine bodyPost_ret (v := .tuple #[.agg #[.int .i64 0, .int .i64 0], .bool false]) (by simp [results, Try.results7, go_sem, *]) rfl ⟨by rw [E.out.1, E.out.2], ?_⟩
      iterate 2 (refine Below.setCell ?_ (by simp <;> omega) _)
      exact hb01
end Go.Proofs.Ytndfacmfjilbkai
