/- The program's FlySpans, by its contract, over that of its walk. -/
import Derived.Test.YtdgmbaiojgnfiaaWalkSaid
import Derived.Test.YtdgmbaiojgnfiaaSpanSaid
import Derived.Deep.RegionHeld3
namespace Go.Proofs.Ytdgmbaiojgnfiaa
open Go.RowKit

theorem box_grown {w wr w2 : World} {q s fr b : Int} {v : Value} {g : Nat} (h : BoxP w wr q s fr b v) (hg : wr.grownBy w2 (some g)) (hn : w.heap.size < g) : BoxP w w2 q s fr b v :=
  h.keep ((Below.refl _ _).grown hg h.lt (fun k e => by cases e; omega))

set_option maxRecDepth 20000 in
set_option maxHeartbeats 4000000 in
theorem spans_any (hW : WalkSaid) (hF : FollowSaid) : SpansSaid := by
  intro q s fr b a b0 o cap l w hl hs
  have hB0 := BoxP.new w q s fr b (.slice a l.length cap) 34
  cases hp : pathB q s fr b l with
  | false =>
    have e1 : flyB q s fr b l = false := by unfold flyB; rw [hp]; rfl
    have e2 : flyL q s fr b l = [] := by unfold flyL; rw [hp]; rfl
    rw [e1, e2]
    go_enter Try.func63, Try.ntmps63
    go_wp2_with fail
    refine (pathOk_any hF _ _ _ _ _ b0 o _ _ _ hl (hs.alloc _)).mono ?_
    rw [hp]
    rintro e w1 ⟨rfl, hb1⟩
    have hB1 := hB0.below hb1
    go_wp2
    go_ret2
    exact ⟨_, rfl, World.ownsRow_nil _ _ _ _, hB1.old⟩
  | true =>
    have e1 : flyB q s fr b l = fwdTo q s fr b l (l.length + 1) := by unfold flyB; rw [hp, span_fwd hp]; rfl
    have e2 : flyL q s fr b l = spansL q s fr b l := by unfold flyL; rw [hp]; rfl
    have kr := kind_range hp
    have hne : l ≠ [] := by have := path_len hp; intro e; subst e; simp at this
    have hfold := fwd_fold hp l.length (Nat.le_refl _)
    rw [e1, e2]
    go_enter Try.func63, Try.ntmps63
    go_wp2_with fail
    refine (pathOk_any hF _ _ _ _ _ b0 o _ _ _ hl (hs.alloc _)).mono ?_
    rw [hp]
    rintro e w1 ⟨rfl, hb1⟩
    have hB1 := hB0.below hb1
    have c0 := hB1.p0
    have c1 := hB1.p1
    have c2 := hB1.p2
    have c3 := hB1.p3
    have c4 := hB1.p4
    clear hb1 hB0
    go_wp2_with fail
    refine (winds_any _ _ _ _ _ b0 o _ _ _ hl (hs.below hB1.old hs.lt)).mono ?_
    rintro e w2 ⟨v, rfl, ho2, hb2⟩
    obtain ⟨g, scap, rfl, hg1, hg2⟩ := owns_some ho2 (by omega)
    have hB2 := hB1.below hb2
    have z1 := hB1.lt
    have z2 := hB2.lt
    clear c0 c1 c2 c3 c4 hb2 hB1
    have c0 := hB2.p0
    have c1 := hB2.p1
    have c2 := hB2.p2
    have c3 := hB2.p3
    have c4 := hB2.p4
    have hs2 := hs.below hB2.old hs.lt
    have hbw := hs.lt hne
    have hW1 := fun (W : World) (hW2 : Below w2.heap.size w2 W) (Bs : Nat) (hBs : w2.heap.size ≤ Bs ∧ Bs < W.heap.size) (hc : W.cell? ⟨Bs, 0, none⟩ = some (.slice a l.length cap)) =>
      walkF_any hW q s l g scap w1.heap.size Bs b0 o cap a (winL fr b l (l.length + 1)) W ⟨kr.1, by omega⟩ ⟨by omega, kr.2.2⟩ hl (win_good hp) (owns_below ho2 hW2) ⟨hBs.2, by omega⟩ hc (hs2.below hW2 hs2.lt) (fun _ => ⟨by have := hW2.size; omega, by omega⟩)
    have hal : Below w2.heap.size w2 (w2.drew.alloc (.cells #[.slice a l.length cap] 32)) := ((Below.refl w2.heap.size w2).drew).alloc (Nat.le_refl _) _
    have hsz : (w2.drew.alloc (.cells #[.slice a l.length cap] 32)).heap.size = w2.heap.size + 1 := World.size_alloc _ _
    have hcl : (w2.drew.alloc (.cells #[.slice a l.length cap] 32)).cell? ⟨w2.heap.size, 0, none⟩ = some (.slice a l.length cap) := (Boxed.new w2.drew 32 (.slice a l.length cap)).cell
    have HWK := hW1 _ hal w2.heap.size ⟨Nat.le_refl _, by omega⟩ hcl
    have HC : ∀ w4, (w2.drew.alloc (.cells #[.slice a l.length cap] 32)).grownBy w4 (some g) → ∀ j, w4.cell? ⟨w.heap.size, j, none⟩ = w2.cell? ⟨w.heap.size, j, none⟩ := fun w4 hg4 j =>
      (World.cell?_of_block (a := ⟨w.heap.size, j, none⟩) (hg4.block w.heap.size (by omega) (fun e => by cases e; omega))).trans (hal.cell (p := ⟨w.heap.size, j, none⟩) z2)
    clear hW1 hcl
    go_wp2
    go_region_held3 (fun w' => w'.cell? ⟨w.heap.size, 0, none⟩ = some (.int .i64 q) ∧ w'.cell? ⟨w.heap.size, 1, none⟩ = some (.int .i64 s) ∧ w'.cell? ⟨w.heap.size, 2, none⟩ = some (.slice a l.length cap) ∧ w'.cell? ⟨w.heap.size, 3, none⟩ = some (.int .i64 fr) ∧ w'.cell? ⟨w.heap.size, 4, none⟩ = some (.int .i64 b))
      (simp [go_sem, World.cell?_alloc_lt, *])
      (first
        | (go_at_call 78; refine (all_any _ _ _ _).mono ?_; rintro e w3 ⟨rfl, rfl⟩)
        | (go_at_call 77; refine HWK.mono ?_; rintro e w4 ⟨rfl, hg4, ho4⟩; have n0 := HC w4 hg4))
    have hB4 : BoxP w w4 q s fr b (.slice a l.length cap) := box_grown (hB2.below hal) hg4 (by omega)
    rw [hfold.1] at ho4
    clear c0 c1 c2 c3 c4 n0 HC HWK
    cases hf : fwdTo q s fr b l (l.length + 1) with
    | false =>
      have e3 : spansL q s fr b l = [] := by unfold spansL; rw [span_fwd hp, hf]; rfl
      go_wp2
      go_ret2
      exact ⟨_, by rw [hf]; rfl, by rw [e3]; exact World.ownsRow_nil _ _ _ _, hB4.old⟩
    | true =>
      have ho5 := ho4 hf
      rw [hfold.2 hf, mixL_all] at ho5
      have z4 := hB4.lt
      have zg : w2.heap.size + 1 ≤ w4.heap.size := by have := hg4.size; omega
      have hs4 : StepsAt w4 a b0 o l := hs.below hB4.old hs.lt
      have hbk := back_fold hp hf l.length (Nat.le_refl _)
      have HE : Hid (backL q s fr b l l.length l.length = spansL q s fr b l) := backL_all (by rw [span_fwd hp]; exact hf)
      clear ho4 hal hsz hg4 hB2 hs2
      have c0 := hB4.p0
      have c1 := hB4.p1
      have c2 := hB4.p2
      have c3 := hB4.p3
      have c4 := hB4.p4
      have hal : Below w4.heap.size w4 (w4.drew.alloc (.cells #[.slice a l.length cap] 32)) := ((Below.refl w4.heap.size w4).drew).alloc (Nat.le_refl _) _
      have hsz : (w4.drew.alloc (.cells #[.slice a l.length cap] 32)).heap.size = w4.heap.size + 1 := World.size_alloc _ _
      have hcl : (w4.drew.alloc (.cells #[.slice a l.length cap] 32)).cell? ⟨w4.heap.size, 0, none⟩ = some (.slice a l.length cap) := (Boxed.new w4.drew 32 (.slice a l.length cap)).cell
      have HWK := walkB_any hW q s l g scap w1.heap.size w4.heap.size b0 o cap a (fwdL q s fr b l (l.length + 1)) _ ⟨kr.1, by omega⟩ ⟨by omega, kr.2.2⟩ hl (fwd_good hp hf) (owns_below ho5 hal) ⟨by omega, by omega⟩ hcl (hs4.below hal hs4.lt) (fun _ => ⟨by omega, by omega⟩)
      rw [hbk] at HWK
      have HC : ∀ w5, (w4.drew.alloc (.cells #[.slice a l.length cap] 32)).grownBy w5 (some g) → ∀ j, w5.cell? ⟨w.heap.size, j, none⟩ = w4.cell? ⟨w.heap.size, j, none⟩ := fun w5 hg5 j =>
        (World.cell?_of_block (a := ⟨w.heap.size, j, none⟩) (hg5.block w.heap.size (by omega) (fun e => by cases e; omega))).trans (hal.cell (p := ⟨w.heap.size, j, none⟩) z4)
      clear hcl hbk
      go_wp2
      go_region_held3 (fun w' => w'.cell? ⟨w.heap.size, 0, none⟩ = some (.int .i64 q) ∧ w'.cell? ⟨w.heap.size, 1, none⟩ = some (.int .i64 s) ∧ w'.cell? ⟨w.heap.size, 2, none⟩ = some (.slice a l.length cap) ∧ w'.cell? ⟨w.heap.size, 3, none⟩ = some (.int .i64 fr) ∧ w'.cell? ⟨w.heap.size, 4, none⟩ = some (.int .i64 b))
        (simp [go_sem, World.cell?_alloc_lt, *])
        (first
          | (go_at_call 80; refine (backw_any _ _ _ _).mono ?_; rintro e w5 ⟨rfl, rfl⟩)
          | (go_at_call 77; refine HWK.mono ?_; rintro e w6 ⟨rfl, hg6, ho6⟩; have n0 := HC w6 hg6))
      have ho7 := ho6 trivial
      have hB6 : BoxP w w6 q s fr b (.slice a l.length cap) := box_grown (hB4.below hal) hg6 (by omega)
      clear c0 c1 c2 c3 c4 n0 HC HWK ho6
      go_wp2
      go_ret2
      refine ⟨_, by rw [hf]; rfl, ?_, hB6.old⟩
      have hlen : (spansL q s fr b l).length = l.length + 1 := by rw [← HE.out, backL_length]
      rw [hlen, ← HE.out]
      exact ⟨ho7.1, ho7.2.imp id fun ⟨g, cap, cur, h1, h2, h3⟩ => ⟨g, cap, cur, h1, by omega, h3⟩⟩
end Go.Proofs.Ytdgmbaiojgnfiaa
