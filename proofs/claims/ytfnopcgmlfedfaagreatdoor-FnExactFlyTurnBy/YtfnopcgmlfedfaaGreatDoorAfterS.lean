/- The specification's l7After and l7Can, by their contracts. -/
import Derived.Test.YtfnopcgmlfedfaaGreatDoorRestData
import Derived.Test.YtfnopcgmlfedfaaGreatDoorRowPut0
import Derived.Test.YtfnopcgmlfedfaaGreatDoorGrownMore
import Derived.Test.YtfnopcgmlfedfaaGreatDoorSpanSpec
import Derived.Test.YtfnopcgmlfedfaaGreatDoorSpanLeaf
namespace Go.Proofs.YtfnopcgmlfedfaaGreatDoor
open Go.RowKit

theorem grown_from_below {w w' : World} (h : Below w.heap.size w w') (row : Option Nat) : w.grownBy w' row := ⟨h.os, h.tape, h.output, h.size, fun k hk _ => h.block k hk⟩
theorem grown_new {a b : World} {row : Option Nat} (h : a.grownBy b row) {p : Addr} (hp : a.heap.size ≤ p.block) (v : Value) : a.grownBy (b.setCell p v) row :=
  ⟨h.os, h.tape, h.output, by simpa [World.setCell] using h.size, fun k hk hr => (heap_setCell_other b p k v (by omega)).trans (h.block k hk hr)⟩
theorem grown_at_row {a b : World} {g : Nat} (h : a.grownBy b (some g)) {p : Addr} (hp : p.block = g) (v : Value) : a.grownBy (b.setCell p v) (some g) := by
  have := grown_set b p v
  rw [hp] at this
  exact grown_over2 h this

set_option maxRecDepth 20000 in
set_option maxHeartbeats 4000000 in
theorem afterS_any (q s fr b nw : Int) (g gc base : Nat) (m : List Stp) (w : World) (hl : 1 ≤ m.length ∧ m.length ≤ 1048576) (ho : w.ownsRow base 74 7 (.slice (some ⟨g, 0, none⟩) m.length gc) m.length (stepCells m)) (hn : 0 ≤ nw ∧ nw ≤ 10000) :
    Calls Tryz.prog 57 #[.agg #[.int .i64 q, .int .i64 s, .slice (some ⟨g, 0, none⟩) m.length gc, .int .i64 fr, .int .i64 b], .int .i64 nw] w
      fun e w' => e = .returned (.agg #[.int .i64 q, .int .i64 s, .slice (some ⟨g, 0, none⟩) m.length gc, .int .i64 (afterFr fr m nw), .int .i64 b]) ∧ w'.ownsRow base 74 7 (.slice (some ⟨g, 0, none⟩) m.length gc) m.length (stepCells (afterL m nw)) ∧ w.grownBy w' (some g) := by
  obtain ⟨n0, n1⟩ := hn
  have hgl := owns_lt ho g rfl
  obtain ⟨W1, hW1⟩ : ∃ W1, (w.alloc (.cells #[.int .i64 q, .int .i64 s, .slice (some ⟨g, 0, none⟩) m.length gc, .int .i64 fr, .int .i64 b] 32)).alloc (.cells #[.int .i64 0, .int .i64 0, .slice none 0 0, .int .i64 0, .int .i64 0] 32) = W1 := ⟨_, rfl⟩
  have X1 : PathAt W1 w.heap.size q s fr b (.slice (some ⟨g, 0, none⟩) m.length gc) := by
    rw [← hW1]
    exact (PathAt.new w q s fr b _).keep ((Below.refl _ _).alloc (Nat.le_refl _) _) (PathAt.new w q s fr b _).lt
  have Z1 : PathAt W1 (w.heap.size + 1) 0 0 0 0 (.slice none 0 0) := by
    have := PathAt.new (w.alloc (.cells #[.int .i64 q, .int .i64 s, .slice (some ⟨g, 0, none⟩) m.length gc, .int .i64 fr, .int .i64 b] 32)) 0 0 0 0 (.slice none 0 0)
    rw [World.size_alloc, hW1] at this
    exact this
  have B1 : Below w.heap.size w W1 := by
    rw [← hW1]
    exact ((Below.refl _ _).alloc (Nat.le_refl _) _).alloc (by simp) _
  have ho1 := owns_below ho B1
  have hg1 : g < W1.heap.size := Nat.lt_of_lt_of_le hgl B1.size
  obtain ⟨⟨x0, x1, x2, x3, x4⟩, xf⟩ := X1.cells
  obtain ⟨⟨y0, y1, y2, y3, y4⟩, yf⟩ := Z1.cells
  by_cases h1 : 1 < m.length
  · obtain ⟨u1, hu⟩ : ∃ u, m[1]? = some u := ⟨_, List.getElem?_eq_getElem h1⟩
    have hud : m.getD 1 .zero = u1 := by rw [List.getD_eq_getElem?_getD, hu]; rfl
    obtain ⟨z, hz⟩ : ∃ z, mxB u1.fr (nw + 1) = z := ⟨_, rfl⟩
    have c11 : W1.cell? ⟨g, 11, none⟩ = some (.int .i64 u1.fr) := (ho1.cellAt 11 (by omega)).trans (stepCells_at _ 1 u1 4 hu (by decide))
    have HF : Hid (afterFr fr m nw = fr ∧ afterL m nw = m.set 1 { u1 with fr := z }) := by
      show _ ∧ _
      unfold afterFr afterL
      rw [if_pos h1, if_pos h1, hud, hz]
      exact ⟨rfl, rfl⟩
    have MX : ∀ (W : World), Calls Tryz.prog 52 #[.int .i64 u1.fr, .int .i64 (nw + 1)] W fun e w' => e = .returned (.int .i64 z) ∧ w' = W := fun W => by rw [← hz]; exact max_any _ _ _
    have m1 : (1 : Int) < (m.length : Int) := by omega
    have m0 : (0 : Int) < (m.length : Int) := by omega
    go_enter Tryz.func57, Tryz.ntmps57
    go_wp2
    clear hW1
    have qn := Cls.any W1
    have q1 := Cls.cell hg1
    have q2 := Cls.cell X1.lt
    refine wp_region_last (by kernel_rfl) (by simp) (by kernel_rfl) (by kernel_rfl) ?_
    simp only [initL, endL]
    repeat (go_big_quiet_step ((go_at_call 52; exact Calls.cls_of_same (MX _))))
    refine wpQuiet_nil ?_
    rintro _ ⟨u, rfl⟩
    have hou := owns_below ho1 u.same
    have XU := X1.keep u.same X1.lt
    have ZU := Z1.keep u.same Z1.lt
    have BU := B1.trans (u.same.mono B1.size)
    clear q1 q2 qn MX x0 x1 x2 x3 x4 xf y0 y1 y2 y3 y4 yf c11
    generalize u.it = U at *
    have t0 := (hou.cellAt 11 (by omega)).trans (stepCells_at _ 1 u1 4 hu (by decide))
    have tf := hou.frozenAt
    have HR := row_put hou (i := 1) (j := 4) (t' := { u1 with fr := z }) (u := .int .i64 z) hu (by decide) rfl
    obtain ⟨⟨x0, x1, x2, x3, x4⟩, xf⟩ := XU.cells
    obtain ⟨⟨y0, y1, y2, y3, y4⟩, yf⟩ := ZU.cells
    have HO : Hid ((U.setCell ⟨g, 11, none⟩ (.int .i64 z)).ownsRow base 74 7 (.slice (some ⟨g, 0, none⟩) m.length gc) m.length (stepCells (m.set 1 { u1 with fr := z }))) := HR
    have gn0 : g ≠ w.heap.size := by omega
    have gn1 : g ≠ w.heap.size + 1 := by omega
    clear HR hou ho1 ho hz
    go_wp2
    refine bodyPost_ret (v := .agg #[.int .i64 q, .int .i64 s, .slice (some ⟨g, 0, none⟩) m.length gc, .int .i64 fr, .int .i64 b]) (by simp [results, Tryz.results57, go_sem, *]) rfl ⟨by rw [HF.out.1], ?_, ?_⟩
    · rw [HF.out.2]
      have hh : ∀ j, (Value.slice (some ⟨g, 0, none⟩) m.length gc).ownBlock = some j → j ≠ w.heap.size + 1 := fun j e => by simp [Value.ownBlock] at e; omega
      iterate 5 (refine owns_set ?_ hh _ _)
      exact HO.out
    · iterate 5 (refine grown_new ?_ (by show _ ≤ w.heap.size + 1; omega) _)
      exact grown_at_row (grown_from_below BU _) rfl _
  · have HF : Hid (afterFr fr m nw = mxB fr (nw + 1) ∧ afterL m nw = m) := by
      show _ ∧ _
      unfold afterFr afterL
      rw [if_neg h1, if_neg h1]
      exact ⟨rfl, rfl⟩
    obtain ⟨z, hz⟩ : ∃ z, mxB fr (nw + 1) = z := ⟨_, rfl⟩
    have MX : ∀ (W : World), Calls Tryz.prog 52 #[.int .i64 fr, .int .i64 (nw + 1)] W fun e w' => e = .returned (.int .i64 z) ∧ w' = W := fun W => by rw [← hz]; exact max_any _ _ _
    have m1 : ¬ (1 : Int) < (m.length : Int) := by omega
    go_enter Tryz.func57, Tryz.ntmps57
    go_wp2_with fail
    refine (MX _).mono ?_
    rintro e w2 ⟨rfl, rfl⟩
    have BU : Hid (Below w.heap.size w w2) := B1
    have HO : Hid (w2.ownsRow base 74 7 (.slice (some ⟨g, 0, none⟩) m.length gc) m.length (stepCells m)) := ho1
    clear hW1 MX B1 ho1 ho
    go_wp2
    refine bodyPost_ret (v := .agg #[.int .i64 q, .int .i64 s, .slice (some ⟨g, 0, none⟩) m.length gc, .int .i64 z, .int .i64 b]) (by simp [results, Tryz.results57, go_sem, *]) rfl ⟨by rw [HF.out.1, hz], ?_, ?_⟩
    · rw [HF.out.2]
      have hh : ∀ j, (Value.slice (some ⟨g, 0, none⟩) m.length gc).ownBlock = some j → j ≠ w.heap.size + 1 := fun j e => by simp [Value.ownBlock] at e; omega
      have hx : ∀ j, (Value.slice (some ⟨g, 0, none⟩) m.length gc).ownBlock = some j → j ≠ w.heap.size := fun j e => by simp [Value.ownBlock] at e; omega
      iterate 5 (refine owns_set ?_ hh _ _)
      exact owns_set HO.out hx _ _
    · iterate 6 (refine grown_new ?_ (by first | (show _ ≤ w.heap.size + 1; omega) | (show _ ≤ w.heap.size; omega)) _)
      exact grown_from_below BU.out _

set_option maxRecDepth 20000 in
set_option maxHeartbeats 4000000 in
theorem canS_any (q s fr b : Int) (g gc base : Nat) (m : List Stp) (w : World) (hW : Wide q s fr b m) (ho : w.ownsRow base 74 7 (.slice (some ⟨g, 0, none⟩) m.length gc) m.length (stepCells m)) (_hbase : base ≤ w.heap.size) :
    Calls Tryz.prog 56 #[.agg #[.int .i64 q, .int .i64 s, .slice (some ⟨g, 0, none⟩) m.length gc, .int .i64 fr, .int .i64 b]] w
      fun e w' => Below w.heap.size w w' ∧ ∃ v, e = .returned (.tuple #[.agg #[.int .i64 (canA q s fr b m).q, .int .i64 (canA q s fr b m).s, v, .int .i64 (canA q s fr b m).fr, .int .i64 (canA q s fr b m).b], .bool (canA q s fr b m).ok]) ∧ w'.ownsRow base 74 7 v (canA q s fr b m).l.length (stepCells (canA q s fr b m).l) := by
  have hgl := owns_lt ho g rfl
  have hst := steps_owned ho
  have Q0 := PathAt.new w q s fr b (.slice (some ⟨g, 0, none⟩) m.length gc)
  have P0 := PathAt.new (w.alloc (.cells #[.int .i64 q, .int .i64 s, .slice (some ⟨g, 0, none⟩) m.length gc, .int .i64 fr, .int .i64 b] 32)) 0 0 0 0 (.slice none 0 0)
  rw [World.size_alloc] at P0
  have Q1 := Q0.keep ((Below.refl _ _).alloc (Nat.le_refl _) (.cells #[.int .i64 0, .int .i64 0, .slice none 0 0, .int .i64 0, .int .i64 0] 32)) Q0.lt
  have B0 : Below w.heap.size w ((w.alloc (.cells #[.int .i64 q, .int .i64 s, .slice (some ⟨g, 0, none⟩) m.length gc, .int .i64 fr, .int .i64 b] 32)).alloc (.cells #[.int .i64 0, .int .i64 0, .slice none 0 0, .int .i64 0, .int .i64 0] 32)) := ((Below.refl _ _).alloc (Nat.le_refl _) _).alloc (by simp) _
  go_enter Tryz.func56, Tryz.ntmps56
  go_wp2_with fail
  refine (spansS_wide _ _ _ _ _ g 0 _ _ _ ((hst.alloc _).alloc _) hW).mono ?_
  rintro e w1 ⟨v1, rfl, _, hb1⟩
  have P1 := P0.keep hb1 P0.lt
  have Q2 := Q1.keep hb1 Q1.lt
  have B1 := B0.trans (hb1.mono B0.size)
  have ho1 := owns_below ho B1
  obtain ⟨⟨x0, x1, x2, x3, x4⟩, xf⟩ := Q2.cells
  obtain ⟨⟨f0, f1, f2, f3, f4⟩, ff⟩ := P1.cells
  clear hb1 P0 Q0 Q1 B0 hst
  cases hsp : spanB q s fr b m with
  | false =>
    have HA : Hid (canA q s fr b m = .no) := by show _ = _; unfold canA; rw [hsp]; rfl
    go_wp2
    refine bodyPost_ret (v := .tuple #[.agg #[.int .i64 0, .int .i64 0, .slice none 0 0, .int .i64 0, .int .i64 0], .bool false]) (by simp [results, Tryz.results56, go_sem, *]) rfl ⟨?_, _, by rw [HA.out]; rfl, by rw [HA.out]; exact World.ownsRow_nil _ _ _ _⟩
    iterate 5 (refine Below.setCell ?_ (by show _ ≤ w.heap.size + 1; omega) _)
    exact B1
  | true =>
    have HA : Hid (canA q s fr b m = { q := q, s := s, fr := fr, b := b, l := m, ok := true }) := by show _ = _; unfold canA; rw [hsp]; rfl
    go_wp2
    refine bodyPost_ret (v := .tuple #[.agg #[.int .i64 q, .int .i64 s, .slice (some ⟨g, 0, none⟩) m.length gc, .int .i64 fr, .int .i64 b], .bool true]) (by simp [results, Tryz.results56, go_sem, *]) rfl ⟨?_, _, by rw [HA.out], ?_⟩
    · iterate 5 (refine Below.setCell ?_ (by show _ ≤ w.heap.size + 1; omega) _)
      exact B1
    · rw [HA.out]
      have hh : ∀ j, (Value.slice (some ⟨g, 0, none⟩) m.length gc).ownBlock = some j → j ≠ w.heap.size + 1 := fun j e => by simp [Value.ownBlock] at e; omega
      iterate 5 (refine owns_set ?_ hh _ _)
      exact ho1
end Go.Proofs.YtfnopcgmlfedfaaGreatDoor
