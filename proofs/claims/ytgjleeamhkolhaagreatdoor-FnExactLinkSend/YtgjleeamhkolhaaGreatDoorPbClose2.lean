/- The program's ProbeClose, by its contract, whole. -/
import Derived.Test.YtgjleeamhkolhaaGreatDoorPbClose
namespace Go.Proofs.YtgjleeamhkolhaaGreatDoor
open Go.RowKit

theorem close_no {a b : Bx} (h : boxB a = false ∨ boxB b = false ∨ nearB a b = false) : closeT a b = 0 ∧ closeB a b = false := by
  unfold closeT closeB
  rcases h with h | h | h <;> simp [h]
theorem close_yes {a b : Bx} (ha : boxB a = true) (hb : boxB b = true) (h : nearB a b = true) : closeT a b = max a.in_ b.in_ ∧ closeB a b = true := by
  unfold closeT closeB
  simp [ha, hb, h]

/-- Both boxes lie in two blocks. -/
structure Two (w W : World) (s t : Bx) : Prop where
  old : Below w.heap.size w W
  lt : w.heap.size + 1 < W.heap.size
  one : W.rangeAt w.heap.size 0 s.cells
  two : W.rangeAt (w.heap.size + 1) 0 t.cells
theorem Two.new (w : World) (s t : Bx) (T : TypeId) : Two w ((w.alloc (.cells #[.int .i64 s.x, .int .i64 s.y, .int .i64 s.lo, .int .i64 s.hi, .int .i64 s.in_, .int .i64 s.out] T)).alloc (.cells #[.int .i64 t.x, .int .i64 t.y, .int .i64 t.lo, .int .i64 t.hi, .int .i64 t.in_, .int .i64 t.out] T)) s t where
  old := bel2 _ _
  lt := by simp
  one := World.rangeAt_alloc (box_new w s T) _
  two := by have := box_new (w.alloc (.cells #[.int .i64 s.x, .int .i64 s.y, .int .i64 s.lo, .int .i64 s.hi, .int .i64 s.in_, .int .i64 s.out] T)) t T; rwa [World.size_alloc] at this
theorem Two.keep {w W W' : World} {s t : Bx} (h : Two w W s t) (hb : Below W.heap.size W W') : Two w W' s t where
  old := h.old.trans (hb.mono h.old.size)
  lt := Nat.lt_of_lt_of_le h.lt hb.size
  one := range_below h.one hb (by have := h.lt; omega)
  two := range_below h.two hb h.lt
theorem Two.cells {w W : World} {s t : Bx} (h : Two w W s t) :
    (W.cell? ⟨w.heap.size, 0, none⟩ = some (.int .i64 s.x) ∧ W.cell? ⟨w.heap.size, 1, none⟩ = some (.int .i64 s.y) ∧ W.cell? ⟨w.heap.size, 2, none⟩ = some (.int .i64 s.lo) ∧ W.cell? ⟨w.heap.size, 3, none⟩ = some (.int .i64 s.hi) ∧ W.cell? ⟨w.heap.size, 4, none⟩ = some (.int .i64 s.in_) ∧ W.cell? ⟨w.heap.size, 5, none⟩ = some (.int .i64 s.out)) ∧
    (W.cell? ⟨w.heap.size + 1, 0, none⟩ = some (.int .i64 t.x) ∧ W.cell? ⟨w.heap.size + 1, 1, none⟩ = some (.int .i64 t.y) ∧ W.cell? ⟨w.heap.size + 1, 2, none⟩ = some (.int .i64 t.lo) ∧ W.cell? ⟨w.heap.size + 1, 3, none⟩ = some (.int .i64 t.hi) ∧ W.cell? ⟨w.heap.size + 1, 4, none⟩ = some (.int .i64 t.in_) ∧ W.cell? ⟨w.heap.size + 1, 5, none⟩ = some (.int .i64 t.out)) :=
  ⟨⟨h.one 0 _ rfl, h.one 1 _ rfl, h.one 2 _ rfl, h.one 3 _ rfl, h.one 4 _ rfl, h.one 5 _ rfl⟩, ⟨h.two 0 _ rfl, h.two 1 _ rfl, h.two 2 _ rfl, h.two 3 _ rfl, h.two 4 _ rfl, h.two 5 _ rfl⟩⟩

/-- Besides them a new block of two numbers. -/
structure Three (w W : World) (s t : Bx) (B : Nat) : Prop where
  both : Two w W s t
  ge : w.heap.size + 1 < B
  lt : B < W.heap.size
  c0 : W.cell? ⟨B, 0, none⟩ = some (.int .i64 0)
  c1 : W.cell? ⟨B, 1, none⟩ = some (.int .i64 0)
  fz : ∀ j, W.frozen? ⟨B, j, none⟩ = false
theorem Three.new {w W : World} {s t : Bx} (h : Two w W s t) (T : TypeId) : Three w (W.alloc (.cells #[.int .i64 0, .int .i64 0] T)) s t W.heap.size where
  both := h.keep ((Below.refl _ _).alloc (Nat.le_refl _) _)
  ge := h.lt
  lt := by simp
  c0 := by simp [go_sem]
  c1 := by simp [go_sem]
  fz j := by simp [go_sem]
theorem Three.keep {w W W' : World} {s t : Bx} {B : Nat} (h : Three w W s t B) (hb : Below W.heap.size W W') : Three w W' s t B where
  both := h.both.keep hb
  ge := h.ge
  lt := Nat.lt_of_lt_of_le h.lt hb.size
  c0 := (hb.cell (p := ⟨B, 0, none⟩) h.lt).trans h.c0
  c1 := (hb.cell (p := ⟨B, 1, none⟩) h.lt).trans h.c1
  fz j := (hb.frozen (p := ⟨B, j, none⟩) h.lt).trans (h.fz j)
theorem Two.set {w W : World} {s t : Bx} (h : Two w W s t) {p : Addr} (hp : w.heap.size + 1 < p.block) (v : Value) : Two w (W.setCell p v) s t where
  old := h.old.setCell (by omega) v
  lt := by have := h.lt; simpa [World.setCell] using this
  one j u hu := by rw [World.cell?_setCell_other _ _ _ _ (by intro e; rw [e] at hp; simp at hp; omega)]; exact h.one j u hu
  two j u hu := by rw [World.cell?_setCell_other _ _ _ _ (by intro e; rw [e] at hp; simp at hp)]; exact h.two j u hu
/-- A new block of two numbers that have been laid. -/
structure PairAt (w W : World) (B : Nat) (a b : Int) : Prop where
  old : Below w.heap.size w W
  lt : B < W.heap.size
  c0 : W.cell? ⟨B, 0, none⟩ = some (.int .i64 a)
theorem PairAt.alloc {w W : World} {s t : Bx} (h : Two w W s t) (a b : Int) (T : TypeId) : PairAt w (W.alloc (.cells #[.int .i64 a, .int .i64 b] T)) W.heap.size a b where
  old := h.old.alloc h.old.size _
  lt := by simp
  c0 := by simp [go_sem]
theorem PairAt.set {w W : World} {s t : Bx} {B : Nat} (h : Three w W s t B) (a b : Int) : PairAt w ((W.setCell ⟨B, 0, none⟩ (.int .i64 a)).setCell ⟨B, 1, none⟩ (.int .i64 b)) B a b where
  old := (h.both.old.setCell (by have := h.ge; show _ ≤ B; omega) _).setCell (by have := h.ge; show _ ≤ B; omega) _
  lt := by have := h.lt; simpa [World.setCell] using this
  c0 := by
    rw [World.cell?_setCell_other _ _ _ _ (by simp)]
    have h0 := h.c0
    simp [go_sem, h0]
theorem PairAt.after {w W W' : World} {B : Nat} {a b : Int} (h : PairAt w W B a b) (hb : Below W.heap.size W W') : W'.cell? ⟨B, 0, none⟩ = some (.int .i64 a) := (hb.cell (p := ⟨B, 0, none⟩) h.lt).trans h.c0

set_option maxHeartbeats 4000000 in
theorem close_any (s t : Bx) (w : World) :
    Calls Tryz.prog 154 #[s.val, t.val] w fun e w' => e = .returned (.tuple #[.int .i64 (closeT s t), .bool (closeB s t)]) ∧ Below w.heap.size w w' := by
  have T0 := Two.new w s t 195
  cases h1 : boxB s with
  | false =>
    have HE : Hid (closeT s t = 0 ∧ closeB s t = false) := close_no (.inl h1)
    have H1 : Hid (boxB s = false) := h1
    clear h1
    go_enter Tryz.func154, Tryz.ntmps154
    go_wp2_with fail
    refine (boxOk_val s false _ H1.out).mono ?_
    rintro e w1 ⟨rfl, hb1⟩
    have T1 := T0.keep hb1
    clear T0 hb1
    go_wp2
    go_ret2
    exact ⟨by rw [HE.out.1, HE.out.2]; rfl, T1.old⟩
  | true =>
    have H1 : Hid (boxB s = true) := h1
    cases h2 : boxB t with
    | false =>
      have HE : Hid (closeT s t = 0 ∧ closeB s t = false) := close_no (.inr (.inl h2))
      have H2 : Hid (boxB t = false) := h2
      clear h1 h2
      go_enter Tryz.func154, Tryz.ntmps154
      go_wp2_with fail
      refine (boxOk_val s true _ H1.out).mono ?_
      rintro e w1 ⟨rfl, hb1⟩
      have T1 := T0.keep hb1
      clear T0 hb1
      obtain ⟨⟨c0, c1, c2, c3, c4, c5⟩, ⟨d0, d1, d2, d3, d4, d5⟩⟩ := T1.cells
      go_wp2_with fail
      refine (boxOk_val t false _ H2.out).mono ?_
      rintro e w2 ⟨rfl, hb2⟩
      have T2 := T1.keep hb2
      clear T1 hb2 c0 c1 c2 c3 c4 c5 d0 d1 d2 d3 d4 d5
      go_wp2
      go_ret2
      exact ⟨by rw [HE.out.1, HE.out.2]; rfl, T2.old⟩
    | true =>
      have H2 : Hid (boxB t = true) := h2
      cases h3 : besideB s t with
      | false =>
        have HE : Hid (closeT s t = 0 ∧ closeB s t = false) := close_no (.inr (.inr (by rw [near_ticks s t h1 h2, h3]; rfl)))
        have H3 : Hid (besideB s t = false) := h3
        clear h1 h2 h3
        go_enter Tryz.func154, Tryz.ntmps154
        go_wp2_with fail
        refine (boxOk_val s true _ H1.out).mono ?_
        rintro e w1 ⟨rfl, hb1⟩
        have T1 := T0.keep hb1
        clear T0 hb1
        obtain ⟨⟨c0, c1, c2, c3, c4, c5⟩, ⟨d0, d1, d2, d3, d4, d5⟩⟩ := T1.cells
        go_wp2_with fail
        refine (boxOk_val t true _ H2.out).mono ?_
        rintro e w2 ⟨rfl, hb2⟩
        have T2 := T1.keep hb2
        clear T1 hb2 c0 c1 c2 c3 c4 c5 d0 d1 d2 d3 d4 d5
        obtain ⟨⟨c0, c1, c2, c3, c4, c5⟩, ⟨d0, d1, d2, d3, d4, d5⟩⟩ := T2.cells
        go_wp2_with fail
        refine (beside_val s t false _ H1.out H2.out H3.out).mono ?_
        rintro e w3 ⟨rfl, hb3⟩
        have T3 := T2.keep hb3
        clear T2 hb3 c0 c1 c2 c3 c4 c5 d0 d1 d2 d3 d4 d5
        go_wp2
        go_ret2
        exact ⟨by rw [HE.out.1, HE.out.2]; rfl, T3.old⟩
      | true =>
        have HN : Hid (nearB s t = !decide (min s.out t.out < max s.in_ t.in_)) := by show _ = _; rw [near_ticks s t h1 h2, h3]; rfl
        have HY := close_yes h1 h2
        have HO := fun h => close_no (a := s) (b := t) (.inr (.inr h))
        have H3 : Hid (besideB s t = true) := h3
        have HA : Hid ((nearB s t = true → closeT s t = max s.in_ t.in_ ∧ closeB s t = true) ∧ (nearB s t = false → closeT s t = 0 ∧ closeB s t = false)) := ⟨HY, HO⟩
        clear h1 h2 h3 HY HO
        go_enter Tryz.func154, Tryz.ntmps154
        go_wp2_with fail
        refine (boxOk_val s true _ H1.out).mono ?_
        rintro e w1 ⟨rfl, hb1⟩
        have T1 := T0.keep hb1
        clear T0 hb1
        obtain ⟨⟨c0, c1, c2, c3, c4, c5⟩, ⟨d0, d1, d2, d3, d4, d5⟩⟩ := T1.cells
        go_wp2_with fail
        refine (boxOk_val t true _ H2.out).mono ?_
        rintro e w2 ⟨rfl, hb2⟩
        have T2 := T1.keep hb2
        clear T1 hb2 c0 c1 c2 c3 c4 c5 d0 d1 d2 d3 d4 d5
        obtain ⟨⟨c0, c1, c2, c3, c4, c5⟩, ⟨d0, d1, d2, d3, d4, d5⟩⟩ := T2.cells
        go_wp2_with fail
        refine (beside_val s t true _ H1.out H2.out H3.out).mono ?_
        rintro e w3 ⟨rfl, hb3⟩
        have T3 := T2.keep hb3
        clear T2 hb3 c0 c1 c2 c3 c4 c5 d0 d1 d2 d3 d4 d5
        have T3d : Two w w3.drew s t := T3.keep ((Below.refl _ _).drew)
        obtain ⟨⟨c0, c1, c2, c3, c4, c5⟩, ⟨d0, d1, d2, d3, d4, d5⟩⟩ := T3d.cells
        go_wp2
        go_region_held3 (fun w' => (w'.cell? ⟨w.heap.size, 0, none⟩ = some (.int .i64 s.x) ∧ w'.cell? ⟨w.heap.size, 1, none⟩ = some (.int .i64 s.y) ∧ w'.cell? ⟨w.heap.size, 2, none⟩ = some (.int .i64 s.lo) ∧ w'.cell? ⟨w.heap.size, 3, none⟩ = some (.int .i64 s.hi) ∧ w'.cell? ⟨w.heap.size, 4, none⟩ = some (.int .i64 s.in_) ∧ w'.cell? ⟨w.heap.size, 5, none⟩ = some (.int .i64 s.out)) ∧ (w'.cell? ⟨w.heap.size + 1, 0, none⟩ = some (.int .i64 t.x) ∧ w'.cell? ⟨w.heap.size + 1, 1, none⟩ = some (.int .i64 t.y) ∧ w'.cell? ⟨w.heap.size + 1, 2, none⟩ = some (.int .i64 t.lo) ∧ w'.cell? ⟨w.heap.size + 1, 3, none⟩ = some (.int .i64 t.hi) ∧ w'.cell? ⟨w.heap.size + 1, 4, none⟩ = some (.int .i64 t.in_) ∧ w'.cell? ⟨w.heap.size + 1, 5, none⟩ = some (.int .i64 t.out)))
          (first
            | exact Two.cells (by assumption)
            | exact Two.cells (Three.both (by assumption))
            | exact Two.cells (Two.keep (by assumption) ((Below.refl _ _).alloc (Nat.le_refl _) _))
            | exact Two.cells (Two.set (Two.set (Three.both (by assumption)) (Three.ge (by assumption)) _) (Three.ge (by assumption)) _))
          (first
            | (go_at_call 171; refine (ticks_any _ _ _ _ _ _ _).mono ?_; rintro e w4 ⟨rfl, hb4⟩; first | have T4 := Two.keep (by assumption) hb4 | (have T4 := Three.keep (by assumption) hb4; have z0 := T4.c0; have z1 := T4.c1; have zf := T4.fz) | (have T4 : Three w w4 s t w3.heap.size := Three.keep (Three.new T3d _) hb4; have z0 := T4.c0; have z1 := T4.c1; have zf := T4.fz) | (have T4 := Three.keep (Three.new T4 _) hb4; have z0 := T4.c0; have z1 := T4.c1; have zf := T4.fz))
            | (go_at_call 172; refine (meetTick_any _ _ _ _ _).mono ?_; rintro e w5 ⟨rfl, hb5⟩; first | have T5 := Two.keep (by assumption) hb5 | (have T5 := Three.keep (by assumption) hb5; have z0 := T5.c0; have z1 := T5.c1; have zf := T5.fz) | (have T5 := Three.keep (Three.new T4 _) hb5; have z0 := T5.c0; have z1 := T5.c1; have zf := T5.fz)))
        all_goals
          first
            | have D := PairAt.alloc T5 (max s.in_ t.in_) (min s.out t.out) 242
            | have D := PairAt.set T5 (max s.in_ t.in_) (min s.out t.out)
          clear c0 c1 c2 c3 c4 c5 d0 d1 d2 d3 d4 d5 T3 T3d
          have HD : Hid (PairAt _ _ _ _ _) := D
          clear D
          by_cases h9 : min s.out t.out < max s.in_ t.in_
          · have G : Hid (closeT s t = 0 ∧ closeB s t = false) := HA.out.2 (by rw [HN.out]; simp [h9])
            go_wp2_with fail
            refine (emptyTick_val _ _ true _ (by simpa using h9)).mono ?_
            rintro e w6 ⟨rfl, hb6⟩
            go_wp2
            go_ret2
            exact ⟨by rw [G.out.1, G.out.2]; rfl, HD.out.old.trans (hb6.mono HD.out.old.size)⟩
          · have G : Hid (closeT s t = max s.in_ t.in_ ∧ closeB s t = true) := HA.out.1 (by rw [HN.out]; simp [h9])
            go_wp2_with fail
            refine (emptyTick_val _ _ false _ (by simpa using h9)).mono ?_
            rintro e w6 ⟨rfl, hb6⟩
            have r1 := HD.out.after hb6
            go_wp2
            go_ret2
            exact ⟨by rw [G.out.1, G.out.2]; rfl, HD.out.old.trans (hb6.mono HD.out.old.size)⟩
end Go.Proofs.YtgjleeamhkolhaaGreatDoor
