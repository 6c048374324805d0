/- Joined texts: NextImpl, NextSpec2, NextImpl2, IntCells, GoData. -/
import Derived.Test.YtijcdikekgmfoaaGreatDoorJ02
import Derived.Test.YtijcdikekgmfoaaGreatDoorSpanLeaf
import Derived.Test.YtijcdikekgmfoaaGreatDoorLawImpl
import Derived.Test.YtijcdikekgmfoaaGreatDoorSpanBack
import Derived.Test.YtijcdikekgmfoaaGreatDoorLast
import Derived.Test.YtijcdikekgmfoaaGreatDoorJ01
import Derived.Test.YtijcdikekgmfoaaGreatDoorFollow2
import Derived.Test.YtijcdikekgmfoaaGreatDoorIntsAt
import Derived.Test.YtijcdikekgmfoaaGreatDoorOwnMore
namespace Go.Proofs.YtijcdikekgmfoaaGreatDoor
open Go.RowKit

theorem isIn_any (x1 x2 y1 y2 : Int) (w : World) :
    Calls Tryz.prog 104 #[.agg #[.int .i64 x1, .int .i64 x2], .agg #[.int .i64 y1, .int .i64 y2]] w fun e w' => e = .returned (.bool (decide (y1 ≤ x1) && decide (x2 ≤ y2))) ∧ Below w.heap.size w w' := by
  go_enter Tryz.func104, Tryz.ntmps104
  cases h : decide (y1 ≤ x1) with
  | false =>
    go_wp2
    go_ret
    exact ⟨rfl, ((Below.refl w.heap.size w).alloc (Nat.le_refl _) _).alloc (by simp) _⟩
  | true =>
    go_wp2
    go_ret
    exact ⟨rfl, ((Below.refl w.heap.size w).alloc (Nat.le_refl _) _).alloc (by simp) _⟩
theorem isIn_val (t y1 y2 : Int) (v : Bool) (w : World) (hv : inB t y1 y2 = v) :
    Calls Tryz.prog 104 #[.agg #[.int .i64 t, .int .i64 t], .agg #[.int .i64 y1, .int .i64 y2]] w fun e w' => e = .returned (.bool v) ∧ Below w.heap.size w w' := by
  rw [← hv]; exact isIn_any t t y1 y2 w

set_option maxRecDepth 20000 in
set_option maxHeartbeats 1000000 in
theorem behind_dead (q s fr b : Int) (a : Option Addr) (n cap : Nat) (a' : Option Addr) (cap' : Nat) (z : Int) (w : World) :
    Calls Tryz.prog 89 #[.agg #[.int .i64 q, .int .i64 s, .slice a n cap, .int .i64 fr, .int .i64 b], .slice a' 0 cap', .int .i64 z] w fun e w' => e = .returned (.slice none 0 0) ∧ Below w.heap.size w w' := by
  go_enter Tryz.func89, Tryz.ntmps89
  go_wp2
  obtain ⟨W1, hW1, hB1⟩ : ∃ W1, (w.alloc (.cells #[.int .i64 q, .int .i64 s, .slice a n cap, .int .i64 fr, .int .i64 b] 27)).alloc (.cells #[.int .i64 z, .int .i64 z] 56) = W1 ∧ Below w.heap.size w W1 :=
    ⟨_, rfl, ((Below.refl w.heap.size w).alloc (Nat.le_refl _) _).alloc (by simp) _⟩
  rw [hW1]
  clear hW1
  have qn := Cls.any W1
  refine wp_region_cls (by kernel_rfl) (by kernel_rfl) ?_
  repeat (go_big_quiet_step (fail))
  refine wpQuiet_nil ?_
  rintro _ ⟨u, rfl⟩
  have hb2 := hB1.trans (u.same.mono hB1.size)
  clear qn
  go_wp2
  go_ret
  exact ⟨rfl, hb2⟩

set_option maxRecDepth 20000 in
set_option maxHeartbeats 4000000 in
/-- A row of spans that a call owns, the piece from k on being what is open. -/
theorem behind_live (q s fr b : Int) (a : Option Addr) (b0 o cap : Nat) (l : List Stp) (g scap base k m cp : Nat) (R : List (Int × Int)) (z : Int) (w : World)
    (hl : l.length ≤ 1048576) (hs : StepsAt w a b0 o l) (hkm : k + m = l.length) (hcp : m + 1 ≤ cp) (hq : 1 ≤ q ∧ q ≤ 50) (hs0 : 1 ≤ s ∧ s ≤ 50) (e lf : Int × Int) (hb0 : l ≠ [] → b0 ≠ g)
    (he : R[k]? = some e) (hlf : m ≠ 0 → R[k + 1]? = some lf) (her : 0 ≤ e.1 ∧ e.2 ≤ 10000)
    (hown : w.ownsRow base 56 2 (.slice (some ⟨g, 0, none⟩) (l.length + 1) scap) (l.length + 1) (spanCells R)) :
    Calls Tryz.prog 89 #[.agg #[.int .i64 q, .int .i64 s, .slice a l.length cap, .int .i64 fr, .int .i64 b], .slice (some ⟨g, k * 2, none⟩) (m + 1) cp, .int .i64 z] w
      fun x w' => w.grownBy w' (some g) ∧
        ((inB z e.1 e.2 = false ∧ x = .returned (.slice none 0 0)) ∨
        (inB z e.1 e.2 = true ∧ m = 0 ∧ ∃ a' cp', x = .returned (.slice a' 0 cp')) ∨
        (inB z e.1 e.2 = true ∧ m ≠ 0 ∧ x = .returned (.slice (some ⟨g, (k + 1) * 2, none⟩) m (cp - 1)) ∧
          w'.ownsRow base 56 2 (.slice (some ⟨g, 0, none⟩) (l.length + 1) scap) (l.length + 1) (spanCells (R.set (k + 1) (mxB lf.1 (z + q), mnB lf.2 (z + mostB s l k)))))) := by
  have hgl := (hown.lt g rfl).2
  go_enter Tryz.func89, Tryz.ntmps89
  go_wp2
  obtain ⟨W1, hW1, hB1, hx1, hc0, hc1, hsz1⟩ : ∃ W1, (w.alloc (.cells #[.int .i64 q, .int .i64 s, .slice a l.length cap, .int .i64 fr, .int .i64 b] 27)).alloc (.cells #[.int .i64 z, .int .i64 z] 56) = W1 ∧ Below w.heap.size w W1 ∧
      PathAt W1 w.heap.size q s fr b (.slice a l.length cap) ∧ W1.cell? ⟨w.heap.size + 1, 0, none⟩ = some (.int .i64 z) ∧ W1.cell? ⟨w.heap.size + 1, 1, none⟩ = some (.int .i64 z) ∧ w.heap.size + 1 < W1.heap.size :=
    ⟨_, rfl, ((Below.refl w.heap.size w).alloc (Nat.le_refl _) _).alloc (by simp) _,
      (PathAt.new w q s fr b (.slice a l.length cap)).keep ((Below.refl (w.heap.size + 1) (w.alloc (.cells #[.int .i64 q, .int .i64 s, .slice a l.length cap, .int .i64 fr, .int .i64 b] 27))).alloc (by simp) _) (by omega),
      by simp [go_sem], by simp [go_sem], by simp⟩
  rw [hW1]
  clear hW1
  have ho1 := owns_below hown hB1
  obtain ⟨⟨p0, p1, p2, p3, p4⟩, pf⟩ := hx1.cells
  have x0 := (ho1.cellAt (k * 2) (by omega)).trans (spanCells_get _ _ _ he).1
  have x1 := (ho1.cellAt (k * 2 + 1) (by omega)).trans (spanCells_get _ _ _ he).2
  have hg1 : g < W1.heap.size := Nat.lt_of_lt_of_le hgl hB1.size
  cases hin : inB z e.1 e.2 with
  | false =>
    have HI : ∀ (u : Cls W1), Calls Tryz.prog 104 #[.agg #[.int .i64 z, .int .i64 z], .agg #[.int .i64 e.1, .int .i64 e.2]] u.it fun x w' => x = .returned (.bool false) ∧ Below u.it.heap.size u.it w' := fun u => isIn_val _ _ _ _ _ hin
    have qn := Cls.any W1
    have q1 := Cls.cell hg1
    have q2 := Cls.cell hsz1
    have mn : ((m : Int) + 1 == 0) = false := by simp; omega
    refine wp_region_cls (by kernel_rfl) (by kernel_rfl) ?_
    repeat (go_big_quiet_step ((go_at_call 104; exact Calls.cls_of (HI _))))
    refine wpQuiet_nil ?_
    rintro _ ⟨u, rfl⟩
    have hb2 := hB1.trans (u.same.mono hB1.size)
    clear qn q1 q2 HI
    have HN : Hid (inB z e.1 e.2 = false) := hin
    clear hin
    go_wp2
    go_ret
    exact ⟨⟨hb2.os, hb2.tape, hb2.output, hb2.size, fun i hi _ => hb2.block i hi⟩, .inl ⟨HN.out, rfl⟩⟩
  | true =>
    have hzr := (inB_iff _ _ _).1 hin
    have HI : ∀ (u : Cls W1), Calls Tryz.prog 104 #[.agg #[.int .i64 z, .int .i64 z], .agg #[.int .i64 e.1, .int .i64 e.2]] u.it fun x w' => x = .returned (.bool true) ∧ Below u.it.heap.size u.it w' := fun u => isIn_val _ _ _ _ _ hin
    have qn := Cls.any W1
    have q1 := Cls.cell hg1
    have q2 := Cls.cell hsz1
    have mn : ((m : Int) + 1 == 0) = false := by simp; omega
    refine wp_region_cls (by kernel_rfl) (by kernel_rfl) ?_
    repeat (go_big_quiet_step ((go_at_call 104; exact Calls.cls_of (HI _))))
    refine wpQuiet_nil ?_
    rintro _ ⟨u, rfl⟩
    have hb2 := hB1.trans (u.same.mono hB1.size)
    clear qn q1 q2 HI
    have HN : Hid (inB z e.1 e.2 = true) := hin
    clear hin
    rcases m with _ | m
    · by_cases hc : cp = 1
      · go_wp2
        go_ret
        exact ⟨⟨hb2.os, hb2.tape, hb2.output, hb2.size, fun i hi _ => hb2.block i hi⟩, .inr ⟨HN.out, _, _, rfl⟩⟩
      · go_wp2
        go_ret
        exact ⟨⟨hb2.os, hb2.tape, hb2.output, hb2.size, fun i hi _ => hb2.block i hi⟩, .inr ⟨HN.out, _, _, rfl⟩⟩
    · have hlf' := hlf (by omega)
      obtain ⟨t, ht⟩ : ∃ t, l[k]? = some t := ⟨l[k], List.getElem?_eq_getElem (by omega)⟩
      have hne : l ≠ [] := by intro e'; subst e'; simp at ht
      obtain rfl := hs.here hne
      have ho2 := owns_below ho1 u.same
      have hx2 := hx1.keep u.same hx1.lt
      have hs2 := hs.below hb2 hs.lt
      have d0 := (u.same.cell (p := ⟨w.heap.size + 1, 0, none⟩) hsz1).trans hc0
      have d1 := (u.same.cell (p := ⟨w.heap.size + 1, 1, none⟩) hsz1).trans hc1
      have hsz2 : w.heap.size + 1 < u.it.heap.size := Nat.lt_of_lt_of_le hsz1 u.same.size
      have hg2 : g < u.it.heap.size := Nat.lt_of_lt_of_le hg1 u.same.size
      clear hx1 hc0 hc1 p0 p1 p2 p3 p4 pf x0 x1 hs hlf
      generalize u.it = W2 at hb2 ho2 hx2 hs2 d0 d1 hsz2 hg2 ⊢
      clear u
      obtain ⟨⟨p0, p1, p2, p3, p4⟩, pf⟩ := hx2.cells
      obtain ⟨c0, c1, c2, c3, c4, c5, c6⟩ := hs2.seven ht
      have hbl := hs2.lt hne
      obtain ⟨mo, hmo⟩ : ∃ mo, mostB s l k = mo := ⟨_, rfl⟩
      have hmr : 1 ≤ mo ∧ mo ≤ 10000 := by rw [← hmo]; unfold mostB; split <;> omega
      have ST : ∀ (u : Cls W2), Calls Tryz.prog 94 #[.agg #[.int .i64 t.x, .int .i64 t.y, .int .i64 t.lo, .int .i64 t.hi, .int .i64 t.fr, .int .i64 t.by_, .bool t.ho], .agg #[.int .i64 q, .int .i64 s]] u.it fun x w' => x = .returned (.tuple #[.int .i64 q, .int .i64 mo]) ∧ Below u.it.heap.size u.it w' := fun u => by
        have := stay_any t.x t.y t.lo t.hi t.fr t.by_ q s t.ho u.it
        rwa [show (if t.ho then (10000 : Int) else s) = mo by rw [← hmo]; unfold mostB; rw [getD_is ht]] at this
      have hc : ¬ cp = 1 := by omega
      have hw1 : IntKind.i64.wrap ((l.length : Int) - ((m : Int) + 1)) = (k : Int) := by rw [IntKind.wrap_i64]; omega
      have k0 : (0 : Int) ≤ (k : Int) := by omega
      have k1 : (k : Int) < (l.length : Int) := by omega
      have mp : (0 : Int) < (m : Int) + 1 := by omega
      have qn := Cls.any W2
      have q1 := Cls.cell hbl
      have q2 := Cls.cell hx2.lt
      go_wp2
      refine wp_region_cls (by kernel_rfl) (by kernel_rfl) ?_
      repeat (go_big_quiet_step ((go_at_call 94; exact Calls.cls_of (ST _))))
      refine wpQuiet_nil ?_
      rintro _ ⟨u, rfl⟩
      have hb3 := hb2.trans (u.same.mono hb2.size)
      have ho3 := owns_below ho2 u.same
      have d0' := (u.same.cell (p := ⟨w.heap.size + 1, 0, none⟩) hsz2).trans d0
      have d1' := (u.same.cell (p := ⟨w.heap.size + 1, 1, none⟩) hsz2).trans d1
      have hsz3 : w.heap.size + 1 < u.it.heap.size := Nat.lt_of_lt_of_le hsz2 u.same.size
      have hg3 : g < u.it.heap.size := Nat.lt_of_lt_of_le hg2 u.same.size
      clear q1 q2 qn ST p0 p1 p2 p3 p4 pf c0 c1 c2 c3 c4 c5 c6 hx2 hs2 hbl d0 d1 hsz2 hg2 ho2 hb2
      generalize u.it = W3 at hb3 ho3 d0' d1' hsz3 hg3 ⊢
      clear u
      have y0 := (ho3.cellAt (k * 2 + 2) (by omega)).trans ((congrArg (fun i => (spanCells R)[i]?) (show k * 2 + 2 = (k + 1) * 2 by omega)).trans (spanCells_get _ _ _ hlf').1)
      have y1 := (ho3.cellAt (k * 2 + 2 + 1) (by omega)).trans ((congrArg (fun i => (spanCells R)[i]?) (show k * 2 + 2 + 1 = (k + 1) * 2 + 1 by omega)).trans (spanCells_get _ _ _ hlf').2)
      obtain ⟨n1, hn1⟩ : ∃ n1, mxB lf.1 (z + q) = n1 := ⟨_, rfl⟩
      obtain ⟨n2, hn2⟩ : ∃ n2, mnB lf.2 (z + mo) = n2 := ⟨_, rfl⟩
      have TL : ∀ (u : Cls W3), Calls Tryz.prog 46 #[.agg #[.int .i64 z, .int .i64 z], .agg #[.int .i64 lf.1, .int .i64 lf.2], .agg #[.int .i64 q, .int .i64 mo]] u.it fun x w' => x = .returned (.tuple #[.agg #[.int .i64 z, .int .i64 z], .agg #[.int .i64 n1, .int .i64 n2]]) ∧ Below u.it.heap.size u.it w' := fun u => by
        rw [← hn1, ← hn2]
        exact tightL_any z z lf.1 lf.2 q mo u.it (by omega) (by omega) (by omega) (by omega)
      have qn := Cls.any W3
      have q1 := Cls.cell hg3
      have q2 := Cls.cell hsz3
      go_wp2
      refine wp_region_last (by kernel_rfl) (by simp) (by kernel_rfl) (by kernel_rfl) ?_
      simp only [initL, endL]
      repeat (go_big_quiet_step ((go_at_call 46; exact Calls.cls_of (TL _))))
      refine wpQuiet_nil ?_
      rintro _ ⟨u2, rfl⟩
      have hownu := owns_below ho3 u2.same
      have hb4 := hb3.trans (u2.same.mono hb3.size)
      have hlen : (spanCells R).length = (l.length + 1) * 2 := ho3.1
      obtain ⟨v0, t0⟩ : ∃ v, u2.it.cell? ⟨g, k * 2 + 2, none⟩ = some v := ⟨_, (hownu.cellAt (k * 2 + 2) (by omega)).trans (List.getElem?_eq_getElem (by omega))⟩
      obtain ⟨v1, t1⟩ : ∃ v, u2.it.cell? ⟨g, k * 2 + 2 + 1, none⟩ = some v := ⟨_, (hownu.cellAt (k * 2 + 2 + 1) (by omega)).trans (List.getElem?_eq_getElem (by omega))⟩
      have tf := hownu.frozenAt
      have HO9 := owns_put (owns_put hownu (j := k * 2 + 2) (by omega) (.int .i64 n1)) (j := k * 2 + 2 + 1) (by omega) (.int .i64 n2)
      have ER : spanCells (R.set (k + 1) (mxB lf.1 (z + q), mnB lf.2 (z + mostB s l k))) = ((spanCells R).set (k * 2 + 2) (.int .i64 n1)).set (k * 2 + 2 + 1) (.int .i64 n2) := by
        rw [hmo, hn1, hn2, spanCells_set, show (k + 1) * 2 = k * 2 + 2 by omega]
      have gr : w.grownBy ((u2.it.setCell ⟨g, k * 2 + 2, none⟩ (.int .i64 n1)).setCell ⟨g, k * 2 + 2 + 1, none⟩ (.int .i64 n2)) (some g) := by
        have a0 : w.grownBy u2.it (some g) := ⟨hb4.os, hb4.tape, hb4.output, hb4.size, fun i hi _ => hb4.block i hi⟩
        exact grown_over2 (grown_over2 a0 (grown_set u2.it ⟨g, k * 2 + 2, none⟩ (.int .i64 n1))) (grown_set _ ⟨g, k * 2 + 2 + 1, none⟩ (.int .i64 n2))
      rw [← ER] at HO9
      have HO : Hid (((u2.it.setCell ⟨g, k * 2 + 2, none⟩ (.int .i64 n1)).setCell ⟨g, k * 2 + 2 + 1, none⟩ (.int .i64 n2)).ownsRow base 56 2 (.slice (some ⟨g, 0, none⟩) (l.length + 1) scap) (l.length + 1) (spanCells (R.set (k + 1) (mxB lf.1 (z + q), mnB lf.2 (z + mostB s l k))))) := HO9
      have HG : Hid (w.grownBy ((u2.it.setCell ⟨g, k * 2 + 2, none⟩ (.int .i64 n1)).setCell ⟨g, k * 2 + 2 + 1, none⟩ (.int .i64 n2)) (some g)) := gr
      clear q1 q2 qn TL HO9 gr ER hownu hn1 hn2 hmo ho3 ho1 hown
      go_wp2
      go_ret
      refine ⟨HG.out, .inr (.inr ⟨HN.out, by omega, ?_, HO.out⟩)⟩
      rw [show (k + 1) * 2 = k * 2 + 2 by omega]
      rfl
end Go.Proofs.YtijcdikekgmfoaaGreatDoor

namespace Go.Proofs.YtijcdikekgmfoaaGreatDoor
open Go.RowKit

theorem goS_no {q s fr b : Int} {l : List Stp} {zs : List Int} (h : goB q s fr b l zs = false) : goS q s fr b l zs = (0, 0) := by unfold goS; rw [h]; rfl
theorem goB_path {q s fr b : Int} {l : List Stp} {zs : List Int} (h : pathB q s fr b l = false) : goB q s fr b l zs = false := by unfold goB; rw [h]; rfl
theorem goB_long {q s fr b : Int} {l : List Stp} {zs : List Int} (h : l.length < zs.length) : goB q s fr b l zs = false := by
  unfold goB; rw [decide_eq_false (show ¬ zs.length ≤ l.length by omega)]; simp

theorem Span2.new (w : World) (t : TypeId) : (w.alloc (.cells #[.int .i64 0, .int .i64 0] t)).heap[w.heap.size]? = some (.cells #[.int .i64 0, .int .i64 0] t (0, 0)) := heap_alloc_new w _

set_option maxRecDepth 20000 in
set_option maxHeartbeats 1000000 in
theorem flyNextS_any (q s fr b : Int) (a : Option Addr) (b0 o cap : Nat) (l : List Stp) (c : Option Addr) (cb co ccap : Nat) (zs : List Int) (w : World) (hl : l.length ≤ 1048576) (hzl : zs.length ≤ 1048576) (hs : StepsAt w a b0 o l) (hz : IntsAt w c cb co zs) :
    Calls Tryz.prog 39 #[.agg #[.int .i64 q, .int .i64 s, .slice a l.length cap, .int .i64 fr, .int .i64 b], .slice c zs.length ccap] w
      fun e w' => e = .returned (.tuple #[.agg #[.int .i64 (goS q s fr b l zs).1, .int .i64 (goS q s fr b l zs).2], .bool (goB q s fr b l zs)]) ∧ Below w.heap.size w w' := by
  have hx0 := (PathAt.new w q s fr b (.slice a l.length cap)).keep ((Below.refl (w.heap.size + 1) (w.alloc (.cells #[.int .i64 q, .int .i64 s, .slice a l.length cap, .int .i64 fr, .int .i64 b] 27))).alloc (by simp) (.cells #[.int .i64 0, .int .i64 0] 56)) (by omega)
  have hr0 := Span2.new (w.alloc (.cells #[.int .i64 q, .int .i64 s, .slice a l.length cap, .int .i64 fr, .int .i64 b] 27)) 56
  simp only [World.size_alloc] at hr0
  have hbA : Below w.heap.size w ((w.alloc (.cells #[.int .i64 q, .int .i64 s, .slice a l.length cap, .int .i64 fr, .int .i64 b] 27)).alloc (.cells #[.int .i64 0, .int .i64 0] 56)) := ((Below.refl w.heap.size w).alloc (Nat.le_refl _) _).alloc (by simp) _
  go_enter Tryz.func39, Tryz.ntmps39
  go_wp2_with fail
  refine (pathS_any _ _ _ _ _ b0 o _ _ _ hl ((hs.alloc _).alloc _)).mono ?_
  rintro e w1 ⟨rfl, hb1⟩
  have hx1 := hx0.keep hb1 (by simp; omega)
  have hr1 := blk2_kept hr0 hb1
  have hb01 := hbA.trans (hb1.mono (by simp only [World.size_alloc]; omega))
  have sz1 : w.heap.size + 1 + 1 ≤ w1.heap.size := by simpa using hb1.size
  clear hx0 hr0 hb1
  obtain ⟨⟨p0, p1, p2, p3, p4⟩, pf⟩ := hx1.cells
  obtain ⟨r0, r1, rf⟩ := blk2 hr1
  cases hp : pathB q s fr b l with
  | false =>
    have e1 := goB_path (zs := zs) hp
    have E : Hid (goS q s fr b l zs = (0, 0) ∧ goB q s fr b l zs = false) := ⟨goS_no e1, e1⟩
    clear e1
    go_wp2
    refine bodyPost_ret (v := .tuple #[.agg #[.int .i64 0, .int .i64 0], .bool false]) (by simp [results, Tryz.results39, go_sem, *]) rfl ⟨by rw [E.out.1, E.out.2], ?_⟩
    iterate 2 (refine Below.setCell ?_ (by simp <;> omega) _)
    exact hb01
  | true =>
    by_cases hlen : zs.length ≤ l.length
    · have hpl := path_len hp
      obtain ⟨e1, e2⟩ := held_go hp hlen
      have n1 : ¬ ((l.length : Int) < (zs.length : Int)) := by omega
      have hs1 := hs.below hb01 hs.lt
      have hz1 := hz.below hb01 hz.lt
      go_wp2_with fail
      refine (heldS_any _ _ _ _ _ b0 o _ _ _ cb co _ _ _ hpl.1 hl hs1 hz1 hlen).mono ?_
      rintro e w2 ⟨g, gcap, rfl, hown2, hb2⟩
      have hs2 := steps_owned hown2
      have hr2 := blk2_kept hr1 hb2
      have hb02 := hb01.trans (hb2.mono (by omega))
      have hW := held_wide (Wide.of hp) zs hlen
      have hC := spansS_wide q s fr b (some ⟨g, 0, none⟩) g 0 gcap (heldL l zs zs.length) w2 hs2 hW
      rw [heldL_length, e1] at hC
      clear hx1 hr1 hb01 hb2 p0 p1 p2 p3 p4 pf r0 r1 rf hs1 hz1 hown2
      go_wp2_with fail
      refine hC.mono ?_
      rintro e w3 ⟨v, rfl, hown3, hb3⟩
      have hr3 := blk2_kept hr2 hb3
      have sz2 := hb02.size
      have sz3 := hb3.size
      have hb03 := hb02.trans (hb3.mono hb02.size)
      obtain ⟨r0, r1, rf⟩ := blk2 hr3
      clear hC hs2 hr2 hb02 hb3
      cases hg : goB q s fr b l zs with
      | false =>
        have E : Hid (goS q s fr b l zs = (0, 0) ∧ goB q s fr b l zs = false) := ⟨goS_no hg, hg⟩
        clear e1 e2
        go_wp2
        refine bodyPost_ret (v := .tuple #[.agg #[.int .i64 0, .int .i64 0], .bool false]) (by simp [results, Tryz.results39, go_sem, *]) rfl ⟨by rw [E.out.1, E.out.2], ?_⟩
        iterate 2 (refine Below.setCell ?_ (by simp <;> omega) _)
        exact hb03
      | true =>
        have hget := e2 hg
        have hL : (spansL q s fr b (heldL l zs zs.length)).length = l.length + 1 := by
          rw [hg] at e1
          unfold spansL
          rw [if_pos e1, heldL_length]
          simp
        rw [hL] at hown3
        obtain ⟨g3, c3, rfl, hg3, hg3'⟩ := owns_some hown3 (by omega)
        have x0 := (hown3.cellAt (zs.length * 2) (by omega)).trans (spanCells_get _ _ _ hget).1
        have x1 := (hown3.cellAt (zs.length * 2 + 1) (by omega)).trans (spanCells_get _ _ _ hget).2
        obtain ⟨⟨y0, y1⟩, hy⟩ : ∃ y, goS q s fr b l zs = y := ⟨_, rfl⟩
        rw [hy] at x0 x1
        have E : Hid (goS q s fr b l zs = (y0, y1) ∧ goB q s fr b l zs = true) := ⟨hy, hg⟩
        have m0 : (0 : Int) ≤ (zs.length : Int) := by omega
        have m1 : (zs.length : Int) < (l.length : Int) + 1 := by omega
        clear hget e1 e2 hy hown3 n1
        go_wp2
        refine bodyPost_ret (v := .tuple #[.agg #[.int .i64 y0, .int .i64 y1], .bool true]) (by simp [results, Tryz.results39, go_sem, *]) rfl ⟨by rw [E.out.1, E.out.2], ?_⟩
        iterate 2 (refine Below.setCell ?_ (by simp <;> omega) _)
        exact hb03
    · have e1 := goB_long (q := q) (s := s) (fr := fr) (b := b) (show l.length < zs.length by omega)
      have E : Hid (goS q s fr b l zs = (0, 0) ∧ goB q s fr b l zs = false) := ⟨goS_no e1, e1⟩
      clear e1
      have n1 : (l.length : Int) < (zs.length : Int) := by omega
      go_wp2
      refine bodyPost_ret (v := .tuple #[.agg #[.int .i64 0, .int .i64 0], .bool false]) (by simp [results, Tryz.results39, go_sem, *]) rfl ⟨by rw [E.out.1, E.out.2], ?_⟩
      iterate 2 (refine Below.setCell ?_ (by simp <;> omega) _)
      exact hb01
end Go.Proofs.YtijcdikekgmfoaaGreatDoor

namespace Go.Proofs.YtijcdikekgmfoaaGreatDoor
open Go.RowKit

theorem begunB_congr {q s fr b : Int} {l : List Stp} {zs zs' : List Int} : ∀ {m : Nat}, (∀ i, i < m → zs.getD i 0 = zs'.getD i 0) → begunB q s fr b l zs m = begunB q s fr b l zs' m
  | 0, _ => rfl
  | m + 1, h => by
    rw [begunB, begunB, begunB_congr (fun i hi => h i (by omega)), h m (by omega)]
    have e : openA q s fr b l l.length (fun i => zs.getD i 0) m = openA q s fr b l l.length (fun i => zs'.getD i 0) m := by
      cases m with
      | zero => rfl
      | succ k => simp only [openA]; rw [h k (by omega)]
    rw [e]
theorem getD_snoc_lt (cs : List Int) (z : Int) {i : Nat} (h : i < cs.length) : (cs ++ [z]).getD i 0 = cs.getD i 0 := by
  rw [List.getD_eq_getElem?_getD, List.getD_eq_getElem?_getD, List.getElem?_append_left h]
theorem getD_snoc_eq (cs : List Int) (z : Int) : (cs ++ [z]).getD cs.length 0 = z := by
  rw [List.getD_eq_getElem?_getD, List.getElem?_append_right (Nat.le_refl _)]; simp
theorem openA_snoc (q s fr b : Int) (l : List Stp) (cs : List Int) (z : Int) {k : Nat} (hk : k ≤ cs.length) : openA q s fr b l l.length (fun i => (cs ++ [z]).getD i 0) k = openA q s fr b l l.length (fun i => cs.getD i 0) k := by
  cases k with
  | zero => rfl
  | succ m => simp only [openA]; rw [getD_snoc_lt cs z (by omega)]
theorem goB_snoc (q s fr b : Int) (l : List Stp) (cs : List Int) (z : Int) : goB q s fr b l (cs ++ [z]) = (goB q s fr b l cs && (inB z (openA q s fr b l l.length (fun i => cs.getD i 0) cs.length).1 (openA q s fr b l l.length (fun i => cs.getD i 0) cs.length).2 && decide (cs.length + 1 ≤ l.length))) := by
  unfold goB
  rw [List.length_append, List.length_singleton, begunB, getD_snoc_eq, openA_snoc q s fr b l cs z (Nat.le_refl _), begunB_congr (zs' := cs) (fun i hi => getD_snoc_lt cs z hi)]
  generalize inB z (openA q s fr b l l.length (fun i => cs.getD i 0) cs.length).1 (openA q s fr b l l.length (fun i => cs.getD i 0) cs.length).2 = B
  by_cases h1 : cs.length + 1 ≤ l.length
  · rw [decide_eq_true h1, decide_eq_true (show cs.length ≤ l.length by omega)]
    cases pathB q s fr b l <;> cases spanB q s fr b l <;> cases begunB q s fr b l cs cs.length <;> cases B <;> rfl
  · rw [decide_eq_false h1]
    cases pathB q s fr b l <;> cases spanB q s fr b l <;> simp

/-- What the variable of the closure holds when these ticks have come. -/
def OpenV (w : World) (q s fr b : Int) (l : List Stp) (base g scap : Nat) (cs : List Int) (v : Value) : Prop :=
  if goB q s fr b l cs then
    (∃ cp, l.length - cs.length + 1 ≤ cp ∧ v = .slice (some ⟨g, cs.length * 2, none⟩) (l.length - cs.length + 1) cp) ∧ w.ownsRow base 56 2 (.slice (some ⟨g, 0, none⟩) (l.length + 1) scap) (l.length + 1) (spanCells (rowG q s fr b l (fun i => cs.getD i 0) cs.length))
  else ∃ a cp, v = .slice a 0 cp
theorem OpenV.keep {w w' : World} {q s fr b : Int} {l : List Stp} {base g scap : Nat} {cs : List Int} {v : Value} (h : OpenV w q s fr b l base g scap cs v) (hb : goB q s fr b l cs = true → g < w.heap.size → w'.heap[g]? = w.heap[g]?) : OpenV w' q s fr b l base g scap cs v := by
  unfold OpenV at *
  split
  · rename_i hg
    rw [if_pos hg] at h
    refine ⟨h.1, h.2.1, h.2.2.imp id fun ⟨g', cap', cur, h1, h2, h3, h4⟩ => ⟨g', cap', cur, h1, h2, ?_, h4⟩⟩
    have e : g = g' := by cases h1; rfl
    subst e
    exact (hb hg (lt_of_block h3)).trans h3
  · rename_i hg
    rw [if_neg hg] at h
    exact h

theorem goB_parts {q s fr b : Int} {l : List Stp} {zs : List Int} (h : goB q s fr b l zs = true) : pathB q s fr b l = true ∧ spanB q s fr b l = true ∧ zs.length ≤ l.length ∧ ∀ k, k < zs.length → inP (zs.getD k 0) (openA q s fr b l l.length (fun i => zs.getD i 0) k) := by
  simp only [goB, Bool.and_eq_true, decide_eq_true_eq] at h
  exact ⟨h.1.1.1, h.1.1.2, h.1.2, (begunB_iff q s fr b l zs zs.length).1 h.2⟩
theorem open_range {q s fr b : Int} {l : List Stp} {zs : List Int} (h : goB q s fr b l zs = true) : 0 ≤ (openA q s fr b l l.length (fun i => zs.getD i 0) zs.length).1 ∧ (openA q s fr b l l.length (fun i => zs.getD i 0) zs.length).1 ≤ (openA q s fr b l l.length (fun i => zs.getD i 0) zs.length).2 ∧ (openA q s fr b l l.length (fun i => zs.getD i 0) zs.length).2 ≤ 10000 := by
  obtain ⟨hp, hsp, hz, hall⟩ := goB_parts h
  have hw := Wide.of hp
  rw [hw.span_fwd] at hsp
  have hso := open_some hw.quick hsp (fun i => zs.getD i 0) hz hall
  have w1 := span_win hw.quick hsp hz (openA_sub zs.length ⟨Int.le_refl _, hso⟩)
  have w2 := span_win hw.quick hsp hz (openA_sub zs.length ⟨hso, Int.le_refl _⟩)
  have := hw.win zs.length
  omega

theorem grown_of_below {w w' : World} {g : Nat} (h : Below w.heap.size w w') : w.grownBy w' (some g) := ⟨h.os, h.tape, h.output, h.size, fun i hi _ => h.block i hi⟩

theorem behind_st (q s fr b : Int) (a : Option Addr) (b0 o cap : Nat) (l : List Stp) (base g scap : Nat) (cs : List Int) (v : Value) (z : Int) (w : World) (hl : l.length ≤ 1048576) (hs : StepsAt w a b0 o l) (hb0 : l ≠ [] → b0 ≠ g) (hv : OpenV w q s fr b l base g scap cs v) :
    Calls Tryz.prog 89 #[.agg #[.int .i64 q, .int .i64 s, .slice a l.length cap, .int .i64 fr, .int .i64 b], v, .int .i64 z] w
      fun x w' => ∃ v', x = .returned v' ∧ (w.grownBy w' (some g) ∧ (goB q s fr b l cs = false → Below w.heap.size w w')) ∧ OpenV w' q s fr b l base g scap (cs ++ [z]) v' := by
  unfold OpenV at hv
  split at hv
  · rename_i hg
    obtain ⟨⟨cp, hcp, rfl⟩, hown⟩ := hv
    obtain ⟨hp, hsp, hz, hall⟩ := goB_parts hg
    have hk := kind_range hp
    have hr := open_range hg
    have hget := rowG_get q s fr b l (fun i => cs.getD i 0) cs.length cs.length hz
    rw [if_pos (Nat.le_refl _)] at hget
    refine (behind_live q s fr b a b0 o cap l g scap base cs.length (l.length - cs.length) cp _ z w hl hs (by omega) hcp (by omega) (by omega) _ (spanAt q s fr b l l.length (cs.length + 1)) hb0 hget ?_ ⟨hr.1, hr.2.2⟩ hown).mono ?_
    · intro hm
      have := rowG_get q s fr b l (fun i => cs.getD i 0) cs.length (cs.length + 1) (by omega)
      rwa [if_neg (by omega)] at this
    · rintro x w' ⟨hgr, h⟩
      have hsn := goB_snoc q s fr b l cs z
      rw [hg, Bool.true_and] at hsn
      rcases h with ⟨h1, rfl⟩ | ⟨h1, h2, a', cp', rfl⟩ | ⟨h1, h2, rfl, h3⟩
      · rw [h1, Bool.false_and] at hsn
        refine ⟨_, rfl, ⟨hgr, fun h => by rw [hg] at h; cases h⟩, ?_⟩
        unfold OpenV
        rw [if_neg (by rw [hsn]; simp)]
        exact ⟨_, _, rfl⟩
      · rw [decide_eq_false (show ¬ cs.length + 1 ≤ l.length by omega), Bool.and_false] at hsn
        refine ⟨_, rfl, ⟨hgr, fun h => by rw [hg] at h; cases h⟩, ?_⟩
        unfold OpenV
        rw [if_neg (by rw [hsn]; simp)]
        exact ⟨_, _, rfl⟩
      · rw [h1, decide_eq_true (show cs.length + 1 ≤ l.length by omega)] at hsn
        refine ⟨_, rfl, ⟨hgr, fun h => by rw [hg] at h; cases h⟩, ?_⟩
        unfold OpenV
        rw [if_pos (by rw [hsn]; rfl), List.length_append, List.length_singleton]
        refine ⟨⟨cp - 1, by omega, ?_⟩, ?_⟩
        · rw [show l.length - (cs.length + 1) + 1 = l.length - cs.length by omega]
        · rw [rowG_succ, getD_snoc_eq, rowG_congr (c' := fun i => cs.getD i 0) (fun i hi => getD_snoc_lt cs z hi)]
          exact h3
  · rename_i hg
    obtain ⟨a', cp, rfl⟩ := hv
    refine (behind_dead q s fr b a l.length cap a' cp z w).mono ?_
    rintro x w' ⟨rfl, hb⟩
    refine ⟨_, rfl, ⟨grown_of_below hb, fun _ => hb⟩, ?_⟩
    have hsn := goB_snoc q s fr b l cs z
    rw [Bool.not_eq_true] at hg
    rw [hg, Bool.false_and] at hsn
    unfold OpenV
    rw [if_neg (by rw [hsn]; simp)]
    exact ⟨_, _, rfl⟩

theorem goB_mono {q s fr b : Int} {l : List Stp} {cs : List Int} : ∀ (zs : List Int), goB q s fr b l (cs ++ zs) = true → goB q s fr b l cs = true := by
  intro zs
  induction zs generalizing cs with
  | nil => intro h; simpa using h
  | cons z zs ih =>
    intro h
    have h1 := ih (cs := cs ++ [z]) (by simpa using h)
    rw [goB_snoc, Bool.and_eq_true] at h1
    exact h1.1

/-- All blocks that lay, but two, lie as they lay. -/
structure Kept2 (g o : Nat) (w w' : World) : Prop where
  os : w'.os = w.os
  tape : w'.tape = w.tape
  output : w'.output = w.output
  size : w.heap.size ≤ w'.heap.size
  block : ∀ i, i < w.heap.size → i ≠ g → i ≠ o → w'.heap[i]? = w.heap[i]?
end Go.Proofs.YtijcdikekgmfoaaGreatDoor

namespace Go.Proofs.YtijcdikekgmfoaaGreatDoor
open Go.RowKit

/-- The cells of a list of numbers. -/
def intCells (zs : List Int) : List Value := zs.map (.int .i64 ·)
theorem intCells_length (zs : List Int) : (intCells zs).length = zs.length := by simp [intCells]
theorem intCells_get (zs : List Int) (i : Nat) (z : Int) (h : zs[i]? = some z) : (intCells zs)[i]? = some (.int .i64 z) := by simp [intCells, h]
theorem intCells_snoc (zs : List Int) (z : Int) : intCells (zs ++ [z]) = intCells zs ++ [.int .i64 z] := by simp [intCells]
theorem intCells_one (zs : List Int) : ∀ u ∈ intCells zs, u.oneCell' = true := by
  intro u hu
  simp only [intCells, List.mem_map] at hu
  obtain ⟨z, _, rfl⟩ := hu
  rfl
theorem ints_news {w : World} {b o : Nat} {zs : List Int} {a : Option Addr} (h : IntsAt w a b o zs) : ∀ j u, (intCells zs)[j]? = some u → w.cell? ((⟨b, o, none⟩ : Addr).add j) = some u := by
  intro j u hj
  have hlt : j < zs.length := by rw [← intCells_length]; exact (List.getElem?_eq_some_iff.1 hj).1
  obtain ⟨z, hz⟩ : ∃ z, zs[j]? = some z := ⟨zs[j], List.getElem?_eq_getElem hlt⟩
  rw [intCells_get zs j z hz] at hj
  cases hj
  rw [Addr.add_mid]
  exact h.cell j z hz
theorem ints_owned {w : World} {base e : Nat} {zs : List Int} {v : Value} (h : w.ownsRow base e 1 v zs.length (intCells zs)) : ∃ a g cap, v = .slice a zs.length cap ∧ IntsAt w a g 0 zs ∧ (zs ≠ [] → v.ownBlock = some g) := by
  rcases h.2 with ⟨h1, h2⟩ | ⟨g, cap, cur, rfl, _, hh, _⟩
  · subst h1
    have e0 : zs = [] := List.eq_nil_of_length_eq_zero h2
    subst e0
    exact ⟨none, 0, 0, rfl, ⟨fun h => absurd rfl h, fun h => absurd rfl h, fun i z hi => by simp at hi⟩, fun h => absurd rfl h⟩
  · refine ⟨some ⟨g, 0, none⟩, g, cap, rfl, ⟨fun _ => rfl, fun _ => lt_of_block hh, fun i z hi => ?_⟩, fun _ => rfl⟩
    have hl : i < zs.length := (List.getElem?_eq_some_iff.1 hi).1
    rw [Nat.zero_add]
    exact (h.cellAt i (by omega)).trans (intCells_get zs i z hi)
/-- A row does not lie in a block of another type. -/
theorem row_ne {w : World} {base e size n B : Nat} {v : Value} {xs : List Value} (h : w.ownsRow base e size v n xs) {C : Array Value} {t : TypeId} (hB : w.heap[B]? = some (.cells C t (0, 0))) (hne : t ≠ e) : v.ownBlock ≠ some B := by
  intro hv
  rcases h.2 with ⟨rfl, _⟩ | ⟨g, cap, cur, rfl, _, hh, _⟩
  · cases hv
  · cases hv
    rw [hB] at hh
    cases hh
    exact hne rfl
theorem row_ne_row {w : World} {base e size n base' e' size' n' g cap : Nat} {v : Value} {xs xs' : List Value} (h : w.ownsRow base e size v n xs) (h' : w.ownsRow base' e' size' (.slice (some ⟨g, 0, none⟩) n' cap) n' xs') (hne : e' ≠ e) : v.ownBlock ≠ some g := by
  rcases h'.2 with ⟨h1, _⟩ | ⟨g', cap', cur, h1, _, hh, _⟩
  · cases h1
  · cases h1
    exact row_ne h hh hne
end Go.Proofs.YtijcdikekgmfoaaGreatDoor

namespace Go.Proofs.YtijcdikekgmfoaaGreatDoor
open Go.RowKit

/-- The tick of a span that is nearest to one. -/
def clampB (x : Int × Int) (z : Int) : Int := mnB (mxB x.1 z) x.2
theorem clampB_other {x : Int × Int} (h : x.1 ≤ x.2) (z : Int) : mxB x.1 (mnB z x.2) = clampB x z := by
  unfold clampB mxB mnB; repeat' split <;> omega
def tickA (x : Int × Int) : List Int → Int
  | [] => x.1
  | z :: _ => clampB x z
/-- The ticks when i have come behind what has begun. -/
def goAt (q s fr b : Int) (l : List Stp) (cs asks : List Int) : Nat → List Int
  | 0 => cs
  | i + 1 => goAt q s fr b l cs asks i ++ [tickA (goS q s fr b l (goAt q s fr b l cs asks i)) (asks.drop i)]
theorem goAt_length (q s fr b : Int) (l : List Stp) (cs asks : List Int) : ∀ i, (goAt q s fr b l cs asks i).length = cs.length + i
  | 0 => rfl
  | i + 1 => by rw [goAt, List.length_append, goAt_length q s fr b l cs asks i]; simp; omega
/-- How many come. -/
def goStop (q s fr b : Int) (l : List Stp) (cs asks : List Int) : Nat → Nat → Nat
  | 0, i => i
  | f + 1, i => if goB q s fr b l (goAt q s fr b l cs asks i) then goStop q s fr b l cs asks f (i + 1) else i
theorem goStop_is {q s fr b : Int} {l : List Stp} {cs asks : List Int} {n : Nat} (h : goB q s fr b l (goAt q s fr b l cs asks n) = false) (hall : ∀ j, j < n → goB q s fr b l (goAt q s fr b l cs asks j) = true) :
    ∀ (f i : Nat), i ≤ n → n ≤ i + f → goStop q s fr b l cs asks f i = n
  | 0, i, h1, h2 => by simp only [goStop]; omega
  | f + 1, i, h1, h2 => by
    rw [goStop]
    by_cases e : i = n
    · subst e
      rw [h]; rfl
    · rw [if_pos (hall i (by omega))]
      exact goStop_is h hall f (i + 1) (by omega) (by omega)
/-- The whole flight. -/
def goF (q s fr b : Int) (l : List Stp) (cs asks : List Int) : List Int := goAt q s fr b l cs asks (goStop q s fr b l cs asks (l.length + 1) 0)
theorem goF_is {q s fr b : Int} {l : List Stp} {cs asks : List Int} {n : Nat} (h : goB q s fr b l (goAt q s fr b l cs asks n) = false) (hall : ∀ j, j < n → goB q s fr b l (goAt q s fr b l cs asks j) = true) : goF q s fr b l cs asks = goAt q s fr b l cs asks n := by
  unfold goF
  rw [goStop_is h hall (l.length + 1) 0 (Nat.zero_le _) ?_]
  cases n with
  | zero => omega
  | succ m =>
    have := (goB_parts (hall m (by omega))).2.2.1
    rw [goAt_length] at this
    omega
/-- What FlyGo answers. -/
def flownB (q s fr b : Int) (l : List Stp) (cs asks : List Int) : Bool := lawB q s fr b l (goF q s fr b l cs asks)
def flownL (q s fr b : Int) (l : List Stp) (cs asks : List Int) : List Int := if flownB q s fr b l cs asks then goF q s fr b l cs asks else []
theorem lawB_len {q s fr b : Int} {l : List Stp} {zs : List Int} (h : zs.length ≠ l.length + 1) : lawB q s fr b l zs = false := by
  unfold lawB; rw [decide_eq_false h]; simp
theorem lawB_path {q s fr b : Int} {l : List Stp} {zs : List Int} (h : pathB q s fr b l = false) : lawB q s fr b l zs = false := by
  unfold lawB; rw [h]; rfl
theorem flown_no {q s fr b : Int} {l : List Stp} {cs asks : List Int} (h : flownB q s fr b l cs asks = false) : flownL q s fr b l cs asks = [] := by unfold flownL; rw [h]; rfl
end Go.Proofs.YtijcdikekgmfoaaGreatDoor
