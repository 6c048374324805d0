/- Joined texts: FlySeenI, RowPut0, MayImpl. -/
import Derived.Test.YtijcdikekgmfoaaGreatDoorSeenImpl
import Derived.Test.YtijcdikekgmfoaaGreatDoorSomeLeft
import Derived.Test.YtijcdikekgmfoaaGreatDoorPathKit
import Derived.Test.YtijcdikekgmfoaaGreatDoorJ05
import Derived.Test.YtijcdikekgmfoaaGreatDoorShared
import Derived.Test.YtijcdikekgmfoaaGreatDoorCls
namespace Go.Proofs.YtijcdikekgmfoaaGreatDoor
open Go.RowKit

set_option maxHeartbeats 2000000 in
set_option maxRecDepth 20000 in
theorem flySeenI_any (hI : SpansSaid) (q s fr b st nw : Int) (a : Option Addr) (b0 o cap : Nat) (l : List Stp) (p : Addr) (w : World) (hl : l.length ≤ 1048576) (hs : StepsAt w a b0 o l) (hcap : l.length ≤ cap) (hg : Sent w p) :
    Calls Tryz.prog 19 #[.agg #[.int .i64 q, .int .i64 s, .slice a l.length cap, .int .i64 fr, .int .i64 b], .int .i64 st, .int .i64 nw] w (Gives (seenA q s fr b l st nw) w) := by
  have P0 := PathAt.new (w.alloc (.cells #[.int .i64 q, .int .i64 s, .slice a l.length cap, .int .i64 fr, .int .i64 b] 27)) 0 0 0 0 (.slice none 0 0)
  rw [World.size_alloc] at P0
  have B0 : Below w.heap.size w ((w.alloc (.cells #[.int .i64 q, .int .i64 s, .slice a l.length cap, .int .i64 fr, .int .i64 b] 27)).alloc (.cells #[.int .i64 0, .int .i64 0, .slice none 0 0, .int .i64 0, .int .i64 0] 27)) := ((Below.refl _ _).alloc (Nat.le_refl _) _).alloc (by simp) _
  have HC : ∀ W : World, StepsAt W a b0 o l → Calls Tryz.prog 65 #[.agg #[.int .i64 q, .int .i64 s, .slice a l.length cap, .int .i64 fr, .int .i64 b], .int .i64 st, .int .i64 nw] W (Hands (seenA q s fr b l st nw) W) := fun W hW => seenOf_any hI q s fr b st nw a b0 o cap l W hl hW hcap
  generalize seenA q s fr b l st nw = A at HC ⊢
  go_enter Tryz.func19, Tryz.ntmps19
  go_wp2_with fail
  refine (HC _ ((hs.alloc _).alloc _)).mono ?_
  rintro e w1 ⟨q5, s5, fr5, b5, a5, n5, c5, err5, rfl, hG, hb1⟩
  have P1 := P0.keep hb1 P0.lt
  have B1 := B0.trans (hb1.mono B0.size)
  have hg1 := hg.below B1
  have z1 := hb1.size
  simp only [World.size_alloc] at z1
  clear hb1 P0 B0
  rcases hG with ⟨ho, rfl, rfl, rfl, rfl, rfl, rfl, hr⟩ | ⟨hA, rfl, rfl, rfl, rfl, rfl, rfl, rfl, str, rfl⟩
  · simp only [World.size_alloc] at hr
    go_wp2_with fail
    refine (someLeft_yes _ _ _ _ _ _ _ p _ hg1).mono ?_
    rintro e w2 ⟨rfl, hb2⟩
    have P2 := P1.keep hb2 P1.lt
    have B2 := B1.trans (hb2.mono B1.size)
    have hr2 := owns_below hr hb2
    obtain ⟨⟨f0, f1, f2, f3, f4⟩, ff⟩ := P2.cells
    clear hb2 P1 B1
    clear hr HC
    go_wp2
    refine bodyPost_ret (v := .tuple #[.agg #[.int .i64 A.q, .int .i64 A.s, .slice a5 A.l.length c5, .int .i64 A.fr, .int .i64 A.b], .bool true]) (by simp [results, Tryz.results19, go_sem, *]) rfl ⟨_, by rw [ho], ?_, ?_⟩
    · have hh : ∀ k, (Value.slice a5 A.l.length c5).ownBlock = some k → k ≠ w.heap.size + 1 := fun k e => by have := owns_base hr2 k e; omega
      iterate 5 (refine owns_set ?_ hh _ _)
      exact ⟨hr2.1, hr2.2.imp id fun ⟨g, cap, cur, h1, h2, h3⟩ => ⟨g, cap, cur, h1, by omega, h3⟩⟩
    · iterate 5 (refine Below.setCell ?_ (by show _ ≤ w.heap.size + 1; omega) _)
      exact B2
  · go_wp2_with fail
    refine (someLeft_no _ _ _ _ _ _ _ str p _ hg1).mono ?_
    rintro e w2 ⟨rfl, hb2⟩
    have P2 := P1.keep hb2 P1.lt
    have B2 := B1.trans (hb2.mono B1.size)
    obtain ⟨⟨f0, f1, f2, f3, f4⟩, ff⟩ := P2.cells
    clear hb2 P1 B1
    subst hA
    go_wp2
    refine bodyPost_ret (v := .tuple #[.agg #[.int .i64 0, .int .i64 0, .slice none 0 0, .int .i64 0, .int .i64 0], .bool false]) (by simp [results, Tryz.results19, go_sem, *]) rfl (Gives.none rfl ?_)
    iterate 5 (refine Below.setCell ?_ (by show _ ≤ w.heap.size + 1; omega) _)
    exact B2
end Go.Proofs.YtijcdikekgmfoaaGreatDoor

namespace Go.Proofs.YtijcdikekgmfoaaGreatDoor
open Go.RowKit

/-- One number of one step is written. -/
theorem row_put {w : World} {base g cap n : Nat} {l : List Stp} (h : w.ownsRow base 44 7 (.slice (some ⟨g, 0, none⟩) n cap) n (stepCells l)) {i j : Nat} {t t' : Stp} {u : Value} (ht : l[i]? = some t) (hj : j < 7) (he : t'.cells = t.cells.set j u) :
    (w.setCell ⟨g, i * 7 + j, none⟩ u).ownsRow base 44 7 (.slice (some ⟨g, 0, none⟩) n cap) n (stepCells (l.set i t')) := by
  have hi : i < l.length := (List.getElem?_eq_some_iff.1 ht).1
  have hn : l.length * 7 = n * 7 := by rw [← stepCells_length]; exact h.1
  rw [← stepCells_put l i j t t' u ht hj he]
  exact owns_put h (by omega) u
theorem row_put_set {w : World} {base g cap n : Nat} {l : List Stp} {i j : Nat} {t t' : Stp} {u : Value} (h : w.ownsRow base 44 7 (.slice (some ⟨g, 0, none⟩) n cap) n (stepCells (l.set i t))) (hi : i < l.length) (hj : j < 7) (he : t'.cells = t.cells.set j u) :
    (w.setCell ⟨g, i * 7 + j, none⟩ u).ownsRow base 44 7 (.slice (some ⟨g, 0, none⟩) n cap) n (stepCells (l.set i t')) := by
  have h1 := row_put h (j := j) (t := t) (t' := t') (u := u) (by rw [List.getElem?_set_self hi]) hj he
  rw [List.set_set] at h1
  exact h1
/-- All of one step is written. -/
theorem row_put7 {w : World} {base g cap n : Nat} {l : List Stp} (h : w.ownsRow base 44 7 (.slice (some ⟨g, 0, none⟩) n cap) n (stepCells l)) {i : Nat} {t : Stp} (ht : l[i]? = some t) (x y lo hi fr by_ : Int) (ho : Bool) :
    (((((((w.setCell ⟨g, i * 7, none⟩ (.int .i64 x)).setCell ⟨g, i * 7 + 1, none⟩ (.int .i64 y)).setCell ⟨g, i * 7 + 2, none⟩ (.int .i64 lo)).setCell ⟨g, i * 7 + 3, none⟩ (.int .i64 hi)).setCell ⟨g, i * 7 + 4, none⟩ (.int .i64 fr)).setCell ⟨g, i * 7 + 5, none⟩ (.int .i64 by_)).setCell ⟨g, i * 7 + 6, none⟩ (.bool ho)).ownsRow base 44 7 (.slice (some ⟨g, 0, none⟩) n cap) n (stepCells (l.set i { x := x, y := y, lo := lo, hi := hi, fr := fr, by_ := by_, ho := ho })) := by
  have hil : i < l.length := (List.getElem?_eq_some_iff.1 ht).1
  obtain ⟨a0, a1, a2, a3, a4, a5, a6⟩ := t
  have h0 := row_put h (j := 0) (t' := ⟨x, a1, a2, a3, a4, a5, a6⟩) (u := .int .i64 x) ht (by decide) rfl
  have h1 := row_put_set (t := ⟨x, a1, a2, a3, a4, a5, a6⟩) (t' := ⟨x, y, a2, a3, a4, a5, a6⟩) (j := 1) (u := .int .i64 y) h0 hil (by decide) rfl
  have h2 := row_put_set (t := ⟨x, y, a2, a3, a4, a5, a6⟩) (t' := ⟨x, y, lo, a3, a4, a5, a6⟩) (j := 2) (u := .int .i64 lo) h1 hil (by decide) rfl
  have h3 := row_put_set (t := ⟨x, y, lo, a3, a4, a5, a6⟩) (t' := ⟨x, y, lo, hi, a4, a5, a6⟩) (j := 3) (u := .int .i64 hi) h2 hil (by decide) rfl
  have h4 := row_put_set (t := ⟨x, y, lo, hi, a4, a5, a6⟩) (t' := ⟨x, y, lo, hi, fr, a5, a6⟩) (j := 4) (u := .int .i64 fr) h3 hil (by decide) rfl
  have h5 := row_put_set (t := ⟨x, y, lo, hi, fr, a5, a6⟩) (t' := ⟨x, y, lo, hi, fr, by_, a6⟩) (j := 5) (u := .int .i64 by_) h4 hil (by decide) rfl
  exact row_put_set (t := ⟨x, y, lo, hi, fr, by_, a6⟩) (t' := ⟨x, y, lo, hi, fr, by_, ho⟩) (j := 6) (u := .bool ho) h5 hil (by decide) rfl
/-- Steps that a call owns, as the walk meets them. -/
theorem steps_of {w : World} {base : Nat} {v : Value} {l : List Stp} (h : w.ownsRow base 44 7 v l.length (stepCells l)) : ∃ a b cap, v = .slice a l.length cap ∧ StepsAt w a b 0 l := by
  rcases h.2 with ⟨rfl, h0⟩ | ⟨g, cap, cur, rfl, _⟩
  · have : l = [] := List.eq_nil_of_length_eq_zero h0
    subst this
    exact ⟨none, 0, 0, rfl, ⟨fun h => absurd rfl h, fun h => absurd rfl h, fun i t hi => by simp at hi⟩⟩
  · exact ⟨some ⟨g, 0, none⟩, g, cap, rfl, steps_owned h⟩
end Go.Proofs.YtijcdikekgmfoaaGreatDoor

namespace Go.Proofs.YtijcdikekgmfoaaGreatDoor
open Go.RowKit

/-- The contract of the program's FlyRest. -/
def RestISaid : Prop := ∀ (q s fr b st en nw : Int) (a : Option Addr) (b0 o cap : Nat) (l : List Stp) (p : Addr) (w : World), l.length ≤ 1048576 → StepsAt w a b0 o l → l.length ≤ cap → Sent w p →
    Calls Tryz.prog 18 #[.agg #[.int .i64 q, .int .i64 s, .slice a l.length cap, .int .i64 fr, .int .i64 b], .int .i64 st, .int .i64 en, .int .i64 nw] w (Gives (restA q s fr b l st en nw) w)

set_option maxHeartbeats 2000000 in
set_option maxRecDepth 20000 in
theorem leaves_any (hR : RestISaid) (q s fr b st en nw : Int) (a : Option Addr) (b0 o cap : Nat) (l : List Stp) (p : Addr) (w : World) (hl : l.length ≤ 1048576) (hs : StepsAt w a b0 o l) (hcap : l.length ≤ cap) (hg : Sent w p) :
    Calls Tryz.prog 129 #[.agg #[.int .i64 q, .int .i64 s, .slice a l.length cap, .int .i64 fr, .int .i64 b], .int .i64 st, .int .i64 en, .int .i64 nw] w fun e w' => e = .returned (.bool (restA q s fr b l st en nw).ok) ∧ Below w.heap.size w w' := by
  have HC := fun W (hW : StepsAt W a b0 o l) (hgW : Sent W p) => hR q s fr b st en nw a b0 o cap l p W hl hW hcap hgW
  generalize restA q s fr b l st en nw = A at HC ⊢
  have B0 : Below w.heap.size w (w.alloc (.cells #[.int .i64 q, .int .i64 s, .slice a l.length cap, .int .i64 fr, .int .i64 b] 27)) := (Below.refl _ _).alloc (Nat.le_refl _) _
  go_enter Tryz.func129, Tryz.ntmps129
  go_wp2_with fail
  refine (HC _ (hs.alloc _) (hg.alloc _)).mono ?_
  rintro e w1 ⟨v1, rfl, ho1, hb1⟩
  obtain ⟨a1, j1, c1, hv1, _⟩ := steps_of ho1
  subst hv1
  have B1 := B0.trans (hb1.mono B0.size)
  clear hb1 B0 HC ho1
  go_wp2
  go_ret
  exact ⟨rfl, B1.alloc B1.size _⟩

set_option maxHeartbeats 4000000 in
set_option maxRecDepth 20000 in
theorem flyMayI_any (hI : SpansSaid) (hR : RestISaid) (q s fr b : Int) (a : Option Addr) (b0 o cap : Nat) (l : List Stp) (q' s' fr' b' : Int) (a' : Option Addr) (b0' o' cap' : Nat) (l' : List Stp) (st nw : Int) (p : Addr) (w : World) (hl : l.length ≤ 1048576) (hl' : l'.length ≤ 1048576) (hs : StepsAt w a b0 o l) (hs' : StepsAt w a' b0' o' l') (hcap : l.length ≤ cap) (hcap' : l'.length ≤ cap') (hg : Sent w p) :
    Calls Tryz.prog 126 #[.agg #[.int .i64 q, .int .i64 s, .slice a l.length cap, .int .i64 fr, .int .i64 b], .agg #[.int .i64 q', .int .i64 s', .slice a' l'.length cap', .int .i64 fr', .int .i64 b'], .int .i64 st, .int .i64 nw] w
      fun e w' => e = .returned (.bool (mayB q s fr b l q' s' fr' b' l' st nw)) ∧ Below w.heap.size w w' := by
  have T0 := TwoP.new w q s fr b (.slice a l.length cap) q' s' fr' b' (.slice a' l'.length cap')
  go_enter Tryz.func126, Tryz.ntmps126
  go_wp2_with fail
  refine (sharedI_any q s fr b a b0 o cap l q' s' fr' b' a' b0' o' cap' l' _ hl hl' (hs.below T0.old hs.lt) (hs'.below T0.old hs'.lt)).mono ?_
  rintro e w1 ⟨rfl, hb1⟩
  have T1 := T0.below hb1
  clear T0 hb1
  obtain ⟨n, hn⟩ : ∃ n, sharedN q s l q' s' l' = n := ⟨_, rfl⟩
  rw [hn]
  by_cases h1 : (n : Int) ≤ st
  · have HM : Hid (mayB q s fr b l q' s' fr' b' l' st nw = false) := by
      show _ = _; unfold mayB; rw [hn, show decide (st < (n : Int)) = false by simp; omega]; rfl
    go_wp2
    go_ret
    exact ⟨by rw [HM.out]; rfl, T1.old⟩
  have hlt : decide (st < (n : Int)) = true := by simp; omega
  have hsA := fun W (hW : StepsAt W a b0 o l) (hgW : Sent W p) => flySeenI_any hI q s fr b st nw a b0 o cap l p W hl hW hcap hgW
  have hA1 := @seenA_ok q s fr b l st nw
  have HM : Hid (mayB q s fr b l q' s' fr' b' l' st nw = ((seenA q s fr b l st nw).ok && ((restA q' s' fr' b' l' st (firstOf (seenA q s fr b l st nw)).1 nw).ok && (restA q' s' fr' b' l' st (firstOf (seenA q s fr b l st nw)).2 nw).ok))) := by
    show _ = _; unfold mayB; rw [hn, hlt, Bool.true_and]
  clear hlt hn
  generalize seenA q s fr b l st nw = A at hsA hA1 HM
  obtain ⟨⟨p0, p1, p2, p3, p4⟩, _⟩ := T1.pa.cells
  go_wp2_with fail
  refine (hsA _ (hs.below T1.old hs.lt) (hg.below T1.old)).mono ?_
  rintro e w2 ⟨v2, rfl, ho2, hb2⟩
  obtain ⟨a2, j2, c2, hv2, hs2⟩ := steps_of ho2
  subst hv2
  have T2 := T1.below hb2
  have al : Below w2.heap.size w2 (w2.alloc (.cells #[.int .i64 A.q, .int .i64 A.s, .slice a2 A.l.length c2, .int .i64 A.fr, .int .i64 A.b] 27)) := (Below.refl _ _).alloc (Nat.le_refl _) _
  have X2 := PathAt.new w2 A.q A.s A.fr A.b (.slice a2 A.l.length c2)
  have T3 := T2.below al
  have hs3 := hs2.alloc (.cells #[.int .i64 A.q, .int .i64 A.s, .slice a2 A.l.length c2, .int .i64 A.fr, .int .i64 A.b] 27)
  clear p0 p1 p2 p3 p4 T1 T2 hb2 hsA ho2 hs2 al
  cases hok : A.ok with
  | false =>
    rw [hok, Bool.false_and] at HM
    clear X2
    go_wp2
    go_ret
    exact ⟨by rw [HM.out]; rfl, T3.old⟩
  | true =>
    rw [hok, Bool.true_and] at HM
    obtain ⟨hpA, hsb⟩ := hA1 hok
    have hAl := path_len hpA
    have hfl : flyB A.q A.s A.fr A.b A.l = true := by unfold flyB; rw [hpA, hsb]; rfl
    have hfL : flyL A.q A.s A.fr A.b A.l = spansL A.q A.s A.fr A.b A.l := by unfold flyL; rw [hpA]; rfl
    have hsl : (spansL A.q A.s A.fr A.b A.l).length = A.l.length + 1 := by unfold spansL; rw [if_pos hsb]; simp
    have hC := hI A.q A.s A.fr A.b a2 j2 0 c2 A.l (w2.alloc (.cells #[.int .i64 A.q, .int .i64 A.s, .slice a2 A.l.length c2, .int .i64 A.fr, .int .i64 A.b] 27)) (by omega) hs3
    rw [hfl, hfL, hsl] at hC
    have hf1 := spans_first hsb
    obtain ⟨x, hx⟩ : ∃ x, firstOf A = x := ⟨_, rfl⟩
    rw [hx] at HM
    unfold firstOf at hx
    rw [hx] at hf1
    obtain ⟨⟨y0, y1, y2, y3, y4⟩, _⟩ := X2.cells
    go_wp2_with fail
    refine hC.mono ?_
    rintro e w4 ⟨v4, rfl, ho4, hb4⟩
    obtain ⟨g3, k3, rfl, _, hg3⟩ := owns_some ho4 (by omega)
    have r0 := (ho4.cellAt 0 (by omega)).trans (spanCells_two hf1).1
    have r1 := (ho4.cellAt 1 (by omega)).trans (spanCells_two hf1).2
    have T4 := T3.below hb4
    clear y0 y1 y2 y3 y4 hC hb4 T3 X2 hs3 ho4 hx hf1 hsl hfl hfL hpA hsb hA1 hok
    obtain ⟨⟨z0, z1, z2, z3, z4⟩, _⟩ := T4.pb.cells
    have zX : w.heap.size + 1 < w4.heap.size := T4.pb.lt
    obtain ⟨f, hf⟩ : ∃ f : Int → Bool, ∀ en, (restA q' s' fr' b' l' st en nw).ok = f en := ⟨fun en => (restA q' s' fr' b' l' st en nw).ok, fun _ => rfl⟩
    rw [hf, hf] at HM
    have L1 : ∀ (u : Cls w4) (en : Int), Calls Tryz.prog 129 #[.agg #[.int .i64 q', .int .i64 s', .slice a' l'.length cap', .int .i64 fr', .int .i64 b'], .int .i64 st, .int .i64 en, .int .i64 nw] u.it fun e w' => e = .returned (.bool (f en)) ∧ Below u.it.heap.size u.it w' := fun u en => by
      have T5 := T4.below u.same
      rw [← hf]
      exact leaves_any hR q' s' fr' b' st en nw a' b0' o' cap' l' p u.it hl' (hs'.below T5.old hs'.lt) hcap' (hg.below T5.old)
    obtain ⟨x1, x2⟩ := x
    simp only at HM r0 r1
    clear hf
    have l0 : (0 : Int) < ((A.l.length + 1 : Nat) : Int) := by omega
    have HT : Hid (TwoP w w4 q s fr b (.slice a l.length cap) q' s' fr' b' (.slice a' l'.length cap')) := T4
    have qn := Cls.any w4
    have q1 := Cls.cell zX
    have q2 := Cls.cell hg3
    clear T4
    cases e1 : f x1 with
    | false =>
      rw [e1, Bool.false_and] at HM
      go_wp2
      refine wp_region_cls (by kernel_rfl) (by kernel_rfl) ?_
      repeat (go_big_quiet_step ((go_at_call 129; exact Calls.cls_of (L1 _ _))))
      simp only [e1]
      repeat (go_big_quiet_step ((go_at_call 129; exact Calls.cls_of (L1 _ _))))
      refine wpQuiet_nil ?_
      rintro _ ⟨u, rfl⟩
      have T5 := HT.out.below u.same
      clear qn q1 q2 L1
      go_wp2
      go_ret
      exact ⟨by rw [HM.out]; rfl, T5.old⟩
    | true =>
      rw [e1, Bool.true_and] at HM
      go_wp2
      refine wp_region_cls (by kernel_rfl) (by kernel_rfl) ?_
      repeat (go_big_quiet_step ((go_at_call 129; exact Calls.cls_of (L1 _ _))))
      simp only [e1]
      repeat (go_big_quiet_step ((go_at_call 129; exact Calls.cls_of (L1 _ _))))
      refine wpQuiet_nil ?_
      rintro _ ⟨u, rfl⟩
      have T5 := HT.out.below u.same
      clear qn q1 q2 L1
      go_wp2
      go_ret
      exact ⟨by rw [HM.out]; rfl, T5.old⟩
end Go.Proofs.YtijcdikekgmfoaaGreatDoor
