/- What is open behind a tick, as the program narrows it: by its contract. -/
import Derived.Test.YtndfacmfjilbkaiNextData
import Derived.Test.YtndfacmfjilbkaiSpanLeaf
import Derived.Test.YtndfacmfjilbkaiLawImpl
import Derived.Test.YtndfacmfjilbkaiSpanBack
import Derived.Test.YtndfacmfjilbkaiLast
import Derived.Test.YtndfacmfjilbkaiGrownMore
import Derived.Test.YtndfacmfjilbkaiNextSpec
namespace Go.Proofs.Ytndfacmfjilbkai
open Go.RowKit

theorem isIn_any (x1 x2 y1 y2 : Int) (w : World) :
    Calls Try.prog 65 #[.agg #[.int .i64 x1, .int .i64 x2], .agg #[.int .i64 y1, .int .i64 y2]] w fun e w' => e = .returned (.bool (decide (y1 ≤ x1) && decide (x2 ≤ y2))) ∧ Below w.heap.size w w' := by
  go_enter Try.func65, Try.ntmps65
  cases h : decide (y1 ≤ x1) with
  | false =>
    go_wp2
    go_ret
    exact ⟨rfl, ((Below.refl w.heap.size w).alloc (Nat.le_refl _) _).alloc (by simp) _⟩
  | true =>
    go_wp2
    go_ret
    exact ⟨rfl, ((Below.refl w.heap.size w).alloc (Nat.le_refl _) _).alloc (by simp) _⟩
theorem isIn_val (t y1 y2 : Int) (v : Bool) (w : World) (hv : inB t y1 y2 = v) :
    Calls Try.prog 65 #[.agg #[.int .i64 t, .int .i64 t], .agg #[.int .i64 y1, .int .i64 y2]] w fun e w' => e = .returned (.bool v) ∧ Below w.heap.size w w' := by
  rw [← hv]; exact isIn_any t t y1 y2 w

set_option maxRecDepth 20000 in
set_option maxHeartbeats 1000000 in
theorem behind_dead (q s fr b : Int) (a : Option Addr) (n cap : Nat) (a' : Option Addr) (cap' : Nat) (z : Int) (w : World) :
    Calls Try.prog 51 #[.agg #[.int .i64 q, .int .i64 s, .slice a n cap, .int .i64 fr, .int .i64 b], .slice a' 0 cap', .int .i64 z] w fun e w' => e = .returned (.slice none 0 0) ∧ Below w.heap.size w w' := by
  go_enter Try.func51, Try.ntmps51
  go_wp2
  obtain ⟨W1, hW1, hB1⟩ : ∃ W1, (w.alloc (.cells #[.int .i64 q, .int .i64 s, .slice a n cap, .int .i64 fr, .int .i64 b] 36)).alloc (.cells #[.int .i64 z, .int .i64 z] 30) = W1 ∧ Below w.heap.size w W1 :=
    ⟨_, rfl, ((Below.refl w.heap.size w).alloc (Nat.le_refl _) _).alloc (by simp) _⟩
  rw [hW1]
  clear hW1
  have qn := Cls.any W1
  refine wp_region_cls (by kernel_rfl) (by kernel_rfl) ?_
  repeat (go_big_quiet_step (fail))
  refine wpQuiet_nil ?_
  rintro _ ⟨u, rfl⟩
  have hb2 := hB1.trans (u.same.mono hB1.size)
  clear qn
  go_wp2
  go_ret
  exact ⟨rfl, hb2⟩

set_option maxRecDepth 20000 in
set_option maxHeartbeats 4000000 in
/-- A row of spans that a call owns, the piece from k on being what is open. -/
theorem behind_live (q s fr b : Int) (a : Option Addr) (b0 o cap : Nat) (l : List Stp) (g scap base k m cp : Nat) (R : List (Int × Int)) (z : Int) (w : World)
    (hl : l.length ≤ 1048576) (hs : StepsAt w a b0 o l) (hkm : k + m = l.length) (hcp : m + 1 ≤ cp) (hq : 1 ≤ q ∧ q ≤ 50) (hs0 : 1 ≤ s ∧ s ≤ 50) (e lf : Int × Int) (hb0 : l ≠ [] → b0 ≠ g)
    (he : R[k]? = some e) (hlf : m ≠ 0 → R[k + 1]? = some lf) (her : 0 ≤ e.1 ∧ e.2 ≤ 10000)
    (hown : w.ownsRow base 30 2 (.slice (some ⟨g, 0, none⟩) (l.length + 1) scap) (l.length + 1) (spanCells R)) :
    Calls Try.prog 51 #[.agg #[.int .i64 q, .int .i64 s, .slice a l.length cap, .int .i64 fr, .int .i64 b], .slice (some ⟨g, k * 2, none⟩) (m + 1) cp, .int .i64 z] w
      fun x w' => w.grownBy w' (some g) ∧
        ((inB z e.1 e.2 = false ∧ x = .returned (.slice none 0 0)) ∨
        (inB z e.1 e.2 = true ∧ m = 0 ∧ ∃ a' cp', x = .returned (.slice a' 0 cp')) ∨
        (inB z e.1 e.2 = true ∧ m ≠ 0 ∧ x = .returned (.slice (some ⟨g, (k + 1) * 2, none⟩) m (cp - 1)) ∧
          w'.ownsRow base 30 2 (.slice (some ⟨g, 0, none⟩) (l.length + 1) scap) (l.length + 1) (spanCells (R.set (k + 1) (mxB lf.1 (z + q), mnB lf.2 (z + mostB s l k)))))) := by
  have hgl := (hown.lt g rfl).2
  go_enter Try.func51, Try.ntmps51
  go_wp2
  obtain ⟨W1, hW1, hB1, hx1, hc0, hc1, hsz1⟩ : ∃ W1, (w.alloc (.cells #[.int .i64 q, .int .i64 s, .slice a l.length cap, .int .i64 fr, .int .i64 b] 36)).alloc (.cells #[.int .i64 z, .int .i64 z] 30) = W1 ∧ Below w.heap.size w W1 ∧
      PathAt W1 w.heap.size q s fr b (.slice a l.length cap) ∧ W1.cell? ⟨w.heap.size + 1, 0, none⟩ = some (.int .i64 z) ∧ W1.cell? ⟨w.heap.size + 1, 1, none⟩ = some (.int .i64 z) ∧ w.heap.size + 1 < W1.heap.size :=
    ⟨_, rfl, ((Below.refl w.heap.size w).alloc (Nat.le_refl _) _).alloc (by simp) _,
      (PathAt.new w q s fr b (.slice a l.length cap)).keep ((Below.refl (w.heap.size + 1) (w.alloc (.cells #[.int .i64 q, .int .i64 s, .slice a l.length cap, .int .i64 fr, .int .i64 b] 36))).alloc (by simp) _) (by omega),
      by simp [go_sem], by simp [go_sem], by simp⟩
  rw [hW1]
  clear hW1
  have ho1 := owns_below hown hB1
  obtain ⟨⟨p0, p1, p2, p3, p4⟩, pf⟩ := hx1.cells
  have x0 := (ho1.cellAt (k * 2) (by omega)).trans (spanCells_get _ _ _ he).1
  have x1 := (ho1.cellAt (k * 2 + 1) (by omega)).trans (spanCells_get _ _ _ he).2
  have hg1 : g < W1.heap.size := Nat.lt_of_lt_of_le hgl hB1.size
  cases hin : inB z e.1 e.2 with
  | false =>
    have HI : ∀ (u : Cls W1), Calls Try.prog 65 #[.agg #[.int .i64 z, .int .i64 z], .agg #[.int .i64 e.1, .int .i64 e.2]] u.it fun x w' => x = .returned (.bool false) ∧ Below u.it.heap.size u.it w' := fun u => isIn_val _ _ _ _ _ hin
    have qn := Cls.any W1
    have q1 := Cls.cell hg1
    have q2 := Cls.cell hsz1
    have mn : ((m : Int) + 1 == 0) = false := by simp; omega
    refine wp_region_cls (by kernel_rfl) (by kernel_rfl) ?_
    repeat (go_big_quiet_step ((go_at_call 65; exact Calls.cls_of (HI _))))
    refine wpQuiet_nil ?_
    rintro _ ⟨u, rfl⟩
    have hb2 := hB1.trans (u.same.mono hB1.size)
    clear qn q1 q2 HI
    have HN : Hid (inB z e.1 e.2 = false) := hin
    clear hin
    go_wp2
    go_ret
    exact ⟨⟨hb2.os, hb2.tape, hb2.output, hb2.size, fun i hi _ => hb2.block i hi⟩, .inl ⟨HN.out, rfl⟩⟩
  | true =>
    have hzr := (inB_iff _ _ _).1 hin
    have HI : ∀ (u : Cls W1), Calls Try.prog 65 #[.agg #[.int .i64 z, .int .i64 z], .agg #[.int .i64 e.1, .int .i64 e.2]] u.it fun x w' => x = .returned (.bool true) ∧ Below u.it.heap.size u.it w' := fun u => isIn_val _ _ _ _ _ hin
    have qn := Cls.any W1
    have q1 := Cls.cell hg1
    have q2 := Cls.cell hsz1
    have mn : ((m : Int) + 1 == 0) = false := by simp; omega
    refine wp_region_cls (by kernel_rfl) (by kernel_rfl) ?_
    repeat (go_big_quiet_step ((go_at_call 65; exact Calls.cls_of (HI _))))
    refine wpQuiet_nil ?_
    rintro _ ⟨u, rfl⟩
    have hb2 := hB1.trans (u.same.mono hB1.size)
    clear qn q1 q2 HI
    have HN : Hid (inB z e.1 e.2 = true) := hin
    clear hin
    rcases m with _ | m
    · by_cases hc : cp = 1
      · go_wp2
        go_ret
        exact ⟨⟨hb2.os, hb2.tape, hb2.output, hb2.size, fun i hi _ => hb2.block i hi⟩, .inr ⟨HN.out, _, _, rfl⟩⟩
      · go_wp2
        go_ret
        exact ⟨⟨hb2.os, hb2.tape, hb2.output, hb2.size, fun i hi _ => hb2.block i hi⟩, .inr ⟨HN.out, _, _, rfl⟩⟩
    · have hlf' := hlf (by omega)
      obtain ⟨t, ht⟩ : ∃ t, l[k]? = some t := ⟨l[k], List.getElem?_eq_getElem (by omega)⟩
      have hne : l ≠ [] := by intro e'; subst e'; simp at ht
      obtain rfl := hs.here hne
      have ho2 := owns_below ho1 u.same
      have hx2 := hx1.keep u.same hx1.lt
      have hs2 := hs.below hb2 hs.lt
      have d0 := (u.same.cell (p := ⟨w.heap.size + 1, 0, none⟩) hsz1).trans hc0
      have d1 := (u.same.cell (p := ⟨w.heap.size + 1, 1, none⟩) hsz1).trans hc1
      have hsz2 : w.heap.size + 1 < u.it.heap.size := Nat.lt_of_lt_of_le hsz1 u.same.size
      have hg2 : g < u.it.heap.size := Nat.lt_of_lt_of_le hg1 u.same.size
      clear hx1 hc0 hc1 p0 p1 p2 p3 p4 pf x0 x1 hs hlf
      generalize u.it = W2 at hb2 ho2 hx2 hs2 d0 d1 hsz2 hg2 ⊢
      clear u
      obtain ⟨⟨p0, p1, p2, p3, p4⟩, pf⟩ := hx2.cells
      obtain ⟨c0, c1, c2, c3, c4, c5, c6⟩ := hs2.seven ht
      have hbl := hs2.lt hne
      obtain ⟨mo, hmo⟩ : ∃ mo, mostB s l k = mo := ⟨_, rfl⟩
      have hmr : 1 ≤ mo ∧ mo ≤ 10000 := by rw [← hmo]; unfold mostB; split <;> omega
      have ST : ∀ (u : Cls W2), Calls Try.prog 66 #[.agg #[.int .i64 t.x, .int .i64 t.y, .int .i64 t.lo, .int .i64 t.hi, .int .i64 t.fr, .int .i64 t.by_, .bool t.ho], .agg #[.int .i64 q, .int .i64 s]] u.it fun x w' => x = .returned (.tuple #[.int .i64 q, .int .i64 mo]) ∧ Below u.it.heap.size u.it w' := fun u => by
        have := stay_any t.x t.y t.lo t.hi t.fr t.by_ q s t.ho u.it
        rwa [show (if t.ho then (10000 : Int) else s) = mo by rw [← hmo]; unfold mostB; rw [getD_is ht]] at this
      have hc : ¬ cp = 1 := by omega
      have hw1 : IntKind.i64.wrap ((l.length : Int) - ((m : Int) + 1)) = (k : Int) := by rw [IntKind.wrap_i64]; omega
      have k0 : (0 : Int) ≤ (k : Int) := by omega
      have k1 : (k : Int) < (l.length : Int) := by omega
      have mp : (0 : Int) < (m : Int) + 1 := by omega
      have qn := Cls.any W2
      have q1 := Cls.cell hbl
      have q2 := Cls.cell hx2.lt
      go_wp2
      refine wp_region_cls (by kernel_rfl) (by kernel_rfl) ?_
      repeat (go_big_quiet_step ((go_at_call 66; exact Calls.cls_of (ST _))))
      refine wpQuiet_nil ?_
      rintro _ ⟨u, rfl⟩
      have hb3 := hb2.trans (u.same.mono hb2.size)
      have ho3 := owns_below ho2 u.same
      have d0' := (u.same.cell (p := ⟨w.heap.size + 1, 0, none⟩) hsz2).trans d0
      have d1' := (u.same.cell (p := ⟨w.heap.size + 1, 1, none⟩) hsz2).trans d1
      have hsz3 : w.heap.size + 1 < u.it.heap.size := Nat.lt_of_lt_of_le hsz2 u.same.size
      have hg3 : g < u.it.heap.size := Nat.lt_of_lt_of_le hg2 u.same.size
      clear q1 q2 qn ST p0 p1 p2 p3 p4 pf c0 c1 c2 c3 c4 c5 c6 hx2 hs2 hbl d0 d1 hsz2 hg2 ho2 hb2
      generalize u.it = W3 at hb3 ho3 d0' d1' hsz3 hg3 ⊢
      clear u
      have y0 := (ho3.cellAt (k * 2 + 2) (by omega)).trans ((congrArg (fun i => (spanCells R)[i]?) (show k * 2 + 2 = (k + 1) * 2 by omega)).trans (spanCells_get _ _ _ hlf').1)
      have y1 := (ho3.cellAt (k * 2 + 2 + 1) (by omega)).trans ((congrArg (fun i => (spanCells R)[i]?) (show k * 2 + 2 + 1 = (k + 1) * 2 + 1 by omega)).trans (spanCells_get _ _ _ hlf').2)
      obtain ⟨n1, hn1⟩ : ∃ n1, mxB lf.1 (z + q) = n1 := ⟨_, rfl⟩
      obtain ⟨n2, hn2⟩ : ∃ n2, mnB lf.2 (z + mo) = n2 := ⟨_, rfl⟩
      have TL : ∀ (u : Cls W3), Calls Try.prog 62 #[.agg #[.int .i64 z, .int .i64 z], .agg #[.int .i64 lf.1, .int .i64 lf.2], .agg #[.int .i64 q, .int .i64 mo]] u.it fun x w' => x = .returned (.tuple #[.agg #[.int .i64 z, .int .i64 z], .agg #[.int .i64 n1, .int .i64 n2]]) ∧ Below u.it.heap.size u.it w' := fun u => by
        rw [← hn1, ← hn2]
        exact tightL_any z z lf.1 lf.2 q mo u.it (by omega) (by omega) (by omega) (by omega)
      have qn := Cls.any W3
      have q1 := Cls.cell hg3
      have q2 := Cls.cell hsz3
      go_wp2
      refine wp_region_last (by kernel_rfl) (by simp) (by kernel_rfl) (by kernel_rfl) ?_
      simp only [initL, endL]
      repeat (go_big_quiet_step ((go_at_call 62; exact Calls.cls_of (TL _))))
      refine wpQuiet_nil ?_
      rintro _ ⟨u2, rfl⟩
      have hownu := owns_below ho3 u2.same
      have hb4 := hb3.trans (u2.same.mono hb3.size)
      have hlen : (spanCells R).length = (l.length + 1) * 2 := ho3.1
      obtain ⟨v0, t0⟩ : ∃ v, u2.it.cell? ⟨g, k * 2 + 2, none⟩ = some v := ⟨_, (hownu.cellAt (k * 2 + 2) (by omega)).trans (List.getElem?_eq_getElem (by omega))⟩
      obtain ⟨v1, t1⟩ : ∃ v, u2.it.cell? ⟨g, k * 2 + 2 + 1, none⟩ = some v := ⟨_, (hownu.cellAt (k * 2 + 2 + 1) (by omega)).trans (List.getElem?_eq_getElem (by omega))⟩
      have tf := hownu.frozenAt
      have HO9 := owns_put (owns_put hownu (j := k * 2 + 2) (by omega) (.int .i64 n1)) (j := k * 2 + 2 + 1) (by omega) (.int .i64 n2)
      have ER : spanCells (R.set (k + 1) (mxB lf.1 (z + q), mnB lf.2 (z + mostB s l k))) = ((spanCells R).set (k * 2 + 2) (.int .i64 n1)).set (k * 2 + 2 + 1) (.int .i64 n2) := by
        rw [hmo, hn1, hn2, spanCells_set, show (k + 1) * 2 = k * 2 + 2 by omega]
      have gr : w.grownBy ((u2.it.setCell ⟨g, k * 2 + 2, none⟩ (.int .i64 n1)).setCell ⟨g, k * 2 + 2 + 1, none⟩ (.int .i64 n2)) (some g) := by
        have a0 : w.grownBy u2.it (some g) := ⟨hb4.os, hb4.tape, hb4.output, hb4.size, fun i hi _ => hb4.block i hi⟩
        exact grown_over2 (grown_over2 a0 (grown_set u2.it ⟨g, k * 2 + 2, none⟩ (.int .i64 n1))) (grown_set _ ⟨g, k * 2 + 2 + 1, none⟩ (.int .i64 n2))
      rw [← ER] at HO9
      have HO : Hid (((u2.it.setCell ⟨g, k * 2 + 2, none⟩ (.int .i64 n1)).setCell ⟨g, k * 2 + 2 + 1, none⟩ (.int .i64 n2)).ownsRow base 30 2 (.slice (some ⟨g, 0, none⟩) (l.length + 1) scap) (l.length + 1) (spanCells (R.set (k + 1) (mxB lf.1 (z + q), mnB lf.2 (z + mostB s l k))))) := HO9
      have HG : Hid (w.grownBy ((u2.it.setCell ⟨g, k * 2 + 2, none⟩ (.int .i64 n1)).setCell ⟨g, k * 2 + 2 + 1, none⟩ (.int .i64 n2)) (some g)) := gr
      clear q1 q2 qn TL HO9 gr ER hownu hn1 hn2 hmo ho3 ho1 hown
      go_wp2
      go_ret
      refine ⟨HG.out, .inr (.inr ⟨HN.out, by omega, ?_, HO.out⟩)⟩
      rw [show (k + 1) * 2 = k * 2 + 2 by omega]
      rfl
end Go.Proofs.Ytndfacmfjilbkai
