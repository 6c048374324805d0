/- The specification's copy of a path, its steps that are held, and when it says a flight can go on: by their contracts. -/
import Derived.Test.YtndfacmfjilbkaiNextData
import Derived.Test.YtndfacmfjilbkaiSpanSpec
import Derived.Test.YtndfacmfjilbkaiCopy
import Derived.Test.YtndfacmfjilbkaiInts
namespace Go.Proofs.Ytndfacmfjilbkai
open Go.RowKit

/-- The cells of a list of steps. -/
def stepCells (l : List Stp) : List Value := l.flatMap Stp.cells
theorem stepCells_cons (t : Stp) (l : List Stp) : stepCells (t :: l) = t.cells ++ stepCells l := by simp [stepCells]
theorem stepCells_length (l : List Stp) : (stepCells l).length = l.length * 7 := by
  induction l with
  | nil => rfl
  | cons t l ih => rw [stepCells_cons, List.length_append, ih]; simp; omega
theorem stepCells_at : ∀ (l : List Stp) (i : Nat) (t : Stp) (j : Nat), l[i]? = some t → j < 7 → (stepCells l)[i * 7 + j]? = t.cells[j]?
  | [], i, t, j, h, _ => by simp at h
  | y :: ys, 0, t, j, h, hj => by
    simp at h
    subst h
    rw [stepCells_cons, List.getElem?_append_left (by simp; omega)]
    simp
  | y :: ys, i + 1, t, j, h, hj => by
    rw [stepCells_cons, List.getElem?_append_right (by simp; omega)]
    have ih := stepCells_at ys i t j (by simpa using h) hj
    rw [← ih]
    congr 1
    simp
    omega
theorem stepCells_one (l : List Stp) : ∀ u ∈ stepCells l, u.oneCell' = true := by
  intro u hu
  simp only [stepCells, List.mem_flatMap] at hu
  obtain ⟨t, _, h⟩ := hu
  simp at h
  rcases h with rfl | rfl | rfl | rfl | rfl | rfl | rfl <;> rfl
theorem steps_news {w : World} {b o : Nat} {l : List Stp} {a : Option Addr} (h : StepsAt w a b o l) : ∀ j u, (stepCells l)[j]? = some u → w.cell? ((⟨b, o, none⟩ : Addr).add j) = some u := by
  intro j u hj
  have hlt : j < l.length * 7 := by rw [← stepCells_length]; exact (List.getElem?_eq_some_iff.1 hj).1
  obtain ⟨i, r, hr, rfl⟩ : ∃ i r, r < 7 ∧ j = i * 7 + r := ⟨j / 7, j % 7, Nat.mod_lt _ (by decide), by omega⟩
  obtain ⟨t, ht⟩ : ∃ t, l[i]? = some t := ⟨l[i], List.getElem?_eq_getElem (by omega)⟩
  rw [stepCells_at l i t r ht hr] at hj
  have := h.cell i t ht r u hj
  rw [Addr.add_mid, ← Nat.add_assoc]
  exact this
theorem steps_owned {w : World} {base e n g cap : Nat} {l : List Stp} (h : w.ownsRow base e 7 (.slice (some ⟨g, 0, none⟩) n cap) n (stepCells l)) : StepsAt w (some ⟨g, 0, none⟩) g 0 l where
  here _ := rfl
  lt _ := (h.lt g rfl).2
  cell i t ht j u hu := by
    have hj : j < 7 := (List.getElem?_eq_some_iff.1 hu).1
    have hn : l.length * 7 = n * 7 := by rw [← stepCells_length]; exact h.1
    have hi : i < l.length := (List.getElem?_eq_some_iff.1 ht).1
    have := (h.cellAt (i * 7 + j) (by omega)).trans (stepCells_at l i t j ht hj)
    rw [Nat.zero_add]
    exact this.trans hu

theorem stopAt {p : Prop} (h : Hid p) : p := h.out

set_option maxRecDepth 20000 in
set_option maxHeartbeats 1000000 in
theorem copyS_any (q s fr b : Int) (a : Option Addr) (b0 o cap : Nat) (l : List Stp) (w : World) (hl0 : 1 ≤ l.length) (hl : l.length ≤ 1048576) (hs : StepsAt w a b0 o l) :
    Calls Try.prog 47 #[.agg #[.int .i64 q, .int .i64 s, .slice a l.length cap, .int .i64 fr, .int .i64 b]] w
      fun e w' => ∃ g gcap, e = .returned (.agg #[.int .i64 q, .int .i64 s, .slice (some ⟨g, 0, none⟩) l.length gcap, .int .i64 fr, .int .i64 b]) ∧
        w'.ownsRow w.heap.size 74 7 (.slice (some ⟨g, 0, none⟩) l.length gcap) l.length (stepCells l) ∧ Below w.heap.size w w' := by
  obtain ⟨i0, hi, hz0, hz1, hz2⟩ := info_parts step_info
  have hne : l ≠ [] := by intro e; subst e; simp at hl0
  obtain rfl := hs.here hne
  go_enter Try.func47, Try.ntmps47
  have hB0 := (BoxP.new w q s fr b (.slice (some ⟨b0, o, none⟩) l.length cap) 36)
  have hE := owns_empty (w := ((w.alloc (.cells #[.int .i64 q, .int .i64 s, .slice (some ⟨b0, o, none⟩) l.length cap, .int .i64 fr, .int .i64 b] 36)).alloc (.cells #[.int .i64 0, .int .i64 0, .slice none 0 0, .int .i64 0, .int .i64 0] 36))) (base := w.heap.size + 1 + 1) (e := 74) (size := 7) (by simp)
  simp only [World.size_alloc] at hE
  have hnew := steps_news (((hs.alloc (.cells #[.int .i64 q, .int .i64 s, .slice (some ⟨b0, o, none⟩) l.length cap, .int .i64 fr, .int .i64 b] 36)).alloc (.cells #[.int .i64 0, .int .i64 0, .slice none 0 0, .int .i64 0, .int .i64 0] 36)).alloc (.cells #[] 74))
  have hC : ∀ w4, (((w.alloc (.cells #[.int .i64 q, .int .i64 s, .slice (some ⟨b0, o, none⟩) l.length cap, .int .i64 fr, .int .i64 b] 36)).alloc (.cells #[.int .i64 0, .int .i64 0, .slice none 0 0, .int .i64 0, .int .i64 0] 36)).alloc (.cells #[] 74)).grownBy w4 (Value.slice (some ⟨w.heap.size + 1 + 1, 0, none⟩) 0 0).ownBlock →
      w4.cell? ⟨w.heap.size, 0, none⟩ = some (.int .i64 q) ∧ w4.cell? ⟨w.heap.size, 1, none⟩ = some (.int .i64 s) ∧ w4.cell? ⟨w.heap.size, 2, none⟩ = some (.slice (some ⟨b0, o, none⟩) l.length cap) ∧ w4.cell? ⟨w.heap.size, 3, none⟩ = some (.int .i64 fr) ∧ w4.cell? ⟨w.heap.size, 4, none⟩ = some (.int .i64 b) ∧
      w4.cell? ⟨w.heap.size + 1, 0, none⟩ = some (.int .i64 0) ∧ w4.cell? ⟨w.heap.size + 1, 1, none⟩ = some (.int .i64 0) ∧ w4.cell? ⟨w.heap.size + 1, 2, none⟩ = some (.slice none 0 0) ∧ w4.cell? ⟨w.heap.size + 1, 3, none⟩ = some (.int .i64 0) ∧ w4.cell? ⟨w.heap.size + 1, 4, none⟩ = some (.int .i64 0) := fun w4 hg => by
    have k0 : ∀ j, w4.cell? ⟨w.heap.size, j, none⟩ = _ := fun j => World.cell?_of_block (a := ⟨w.heap.size, j, none⟩) (hg.block w.heap.size (by simp; omega) (by simp [Value.ownBlock]; omega))
    have k1 : ∀ j, w4.cell? ⟨w.heap.size + 1, j, none⟩ = _ := fun j => World.cell?_of_block (a := ⟨w.heap.size + 1, j, none⟩) (hg.block (w.heap.size + 1) (by simp) (by simp [Value.ownBlock]))
    simp only [k0, k1]
    simp [go_sem]
  have hF : ∀ w4, (((w.alloc (.cells #[.int .i64 q, .int .i64 s, .slice (some ⟨b0, o, none⟩) l.length cap, .int .i64 fr, .int .i64 b] 36)).alloc (.cells #[.int .i64 0, .int .i64 0, .slice none 0 0, .int .i64 0, .int .i64 0] 36)).alloc (.cells #[] 74)).grownBy w4 (Value.slice (some ⟨w.heap.size + 1 + 1, 0, none⟩) 0 0).ownBlock →
      (∀ j, w4.frozen? ⟨w.heap.size, j, none⟩ = false) ∧ ∀ j, w4.frozen? ⟨w.heap.size + 1, j, none⟩ = false := fun w4 hg => by
    have k0 : ∀ j, w4.frozen? ⟨w.heap.size, j, none⟩ = _ := fun j => World.frozen?_of_block (a := ⟨w.heap.size, j, none⟩) (hg.block w.heap.size (by simp; omega) (by simp [Value.ownBlock]; omega))
    have k1 : ∀ j, w4.frozen? ⟨w.heap.size + 1, j, none⟩ = _ := fun j => World.frozen?_of_block (a := ⟨w.heap.size + 1, j, none⟩) (hg.block (w.heap.size + 1) (by simp) (by simp [Value.ownBlock]))
    simp only [k0, k1]
    simp [go_sem]
  go_wp2_with (at_builtin; refine wpList_append_own _ rfl (.tmp 3) (.tmp 5) 34 rfl (w.heap.size + 1 + 1) 74 i0 (.agg #[.int .i64 0, .int .i64 0, .int .i64 0, .int .i64 0, .int .i64 0, .int .i64 0, .bool false]) 7 56 Try.underlying34 hi hz0 hz1 hz2 rfl (by decide) (.slice (some ⟨w.heap.size + 1 + 1, 0, none⟩) 0 0) 0 [] rfl hE ⟨b0, o, none⟩ l.length cap (stepCells l) rfl (stepCells_length l) hnew (stepCells_one l) (by unfold maxLen; omega) (by omega) (by simp) ?_; intro v' w4 hown4 hgrow4 hnil4; simp only [Nat.zero_add, List.nil_append] at hown4; obtain ⟨g4, gc4, rfl, hg4, hgl4⟩ := owns_some hown4 (by omega); have c4 := hC w4 hgrow4; have f4 := hF w4 hgrow4; have z0 := c4.1; have z1 := c4.2.1; have z2 := c4.2.2.1; have z3 := c4.2.2.2.1; have z4 := c4.2.2.2.2.1; have y0 := c4.2.2.2.2.2.1; have y1 := c4.2.2.2.2.2.2.1; have y2 := c4.2.2.2.2.2.2.2.1; have y3 := c4.2.2.2.2.2.2.2.2.1; have y4 := c4.2.2.2.2.2.2.2.2.2)
  have HB4 : Below w.heap.size w w4 := ((((Below.refl w.heap.size w).alloc (Nat.le_refl _) _).alloc (by simp) _).alloc (by simp; omega) _).grown hgrow4 (by simp; omega) (fun k e => by simp [Value.ownBlock] at e; omega)
  refine bodyPost_ret (v := .agg #[.int .i64 q, .int .i64 s, .slice (some ⟨g4, 0, none⟩) l.length gc4, .int .i64 fr, .int .i64 b]) (by simp [results, Try.results47, go_sem, *]) rfl ⟨g4, gc4, rfl, ?_, ?_⟩
  · have hh : ∀ k, (Value.slice (some ⟨g4, 0, none⟩) l.length gc4).ownBlock = some k → k ≠ w.heap.size ∧ k ≠ w.heap.size + 1 := fun k e => by simp [Value.ownBlock] at e; omega
    iterate 6 (refine owns_set ?_ (fun k e => by first | exact (hh k e).1 | exact (hh k e).2) _ _)
    exact ⟨hown4.1, hown4.2.imp id fun ⟨g, cap, cur, h1, h2, h3⟩ => ⟨g, cap, cur, h1, by omega, h3⟩⟩
  · iterate 6 (refine Below.setCell ?_ (by simp <;> omega) _)
    exact HB4

theorem stepCells_set : ∀ (l : List Stp) (i : Nat) (t u : Stp), l[i]? = some t → u = { t with fr := u.fr, by_ := u.by_ } → stepCells (l.set i u) = ((stepCells l).set (i * 7 + 4) (.int .i64 u.fr)).set (i * 7 + 5) (.int .i64 u.by_)
  | [], i, t, u, h, _ => by simp at h
  | y :: ys, 0, t, u, h, he => by
    simp at h
    subst h
    rw [List.set_cons_zero, stepCells_cons, stepCells_cons]
    have e1 : u.x = y.x := by rw [he]
    have e2 : u.y = y.y := by rw [he]
    have e3 : u.lo = y.lo := by rw [he]
    have e4 : u.hi = y.hi := by rw [he]
    have e5 : u.ho = y.ho := by rw [he]
    simp [e1, e2, e3, e4, e5]
  | y :: ys, i + 1, t, u, h, he => by
    have ih := stepCells_set ys i t u (by simpa using h) he
    rw [List.set_cons_succ, stepCells_cons, stepCells_cons, ih, show (i + 1) * 7 + 4 = i * 7 + 4 + 7 by omega, show (i + 1) * 7 + 5 = i * 7 + 5 + 7 by omega]
    simp

/-- A path lies in a block of its own. -/
structure PathAt (w : World) (B : Nat) (q s fr b : Int) (v : Value) : Prop where
  it : w.heap[B]? = some (.cells #[.int .i64 q, .int .i64 s, v, .int .i64 fr, .int .i64 b] 36 (0, 0))
theorem PathAt.new (w : World) (q s fr b : Int) (v : Value) : PathAt (w.alloc (.cells #[.int .i64 q, .int .i64 s, v, .int .i64 fr, .int .i64 b] 36)) w.heap.size q s fr b v := ⟨heap_alloc_new w _⟩
theorem PathAt.lt {w : World} {B : Nat} {q s fr b : Int} {v : Value} (h : PathAt w B q s fr b v) : B < w.heap.size := lt_of_block h.it
theorem PathAt.keep {w w' : World} {B N : Nat} {q s fr b : Int} {v : Value} (h : PathAt w B q s fr b v) (hb : Below N w w') (hB : B < N) : PathAt w' B q s fr b v := ⟨(hb.block B hB).trans h.it⟩
theorem PathAt.set {w : World} {B : Nat} {q s fr b : Int} {v : Value} (h : PathAt w B q s fr b v) {p : Addr} (hp : B ≠ p.block) (u : Value) : PathAt (w.setCell p u) B q s fr b v := ⟨(heap_setCell_other w p B u hp).trans h.it⟩
theorem PathAt.cells {w : World} {B : Nat} {q s fr b : Int} {v : Value} (h : PathAt w B q s fr b v) : (w.cell? ⟨B, 0, none⟩ = some (.int .i64 q) ∧ w.cell? ⟨B, 1, none⟩ = some (.int .i64 s) ∧ w.cell? ⟨B, 2, none⟩ = some v ∧ w.cell? ⟨B, 3, none⟩ = some (.int .i64 fr) ∧ w.cell? ⟨B, 4, none⟩ = some (.int .i64 b)) ∧ ∀ j, w.frozen? ⟨B, j, none⟩ = false := by
  have := h.it
  refine ⟨⟨?_, ?_, ?_, ?_, ?_⟩, fun j => ?_⟩ <;> simp [World.cell?, World.frozen?, this]

/-- The cells of a result that is a path, not yet written. -/
structure ResP (w : World) (B : Nat) : Prop where
  lt : B < w.heap.size
  it : w.heap[B]? = some (.cells #[.int .i64 0, .int .i64 0, .slice none 0 0, .int .i64 0, .int .i64 0] 36 (0, 0))
theorem ResP.new (w : World) : ResP (w.alloc (.cells #[.int .i64 0, .int .i64 0, .slice none 0 0, .int .i64 0, .int .i64 0] 36)) w.heap.size := ⟨by simp, heap_alloc_new w _⟩
theorem ResP.keep {w w' : World} {B N : Nat} (h : ResP w B) (hb : Below N w w') (hB : B < N) : ResP w' B := ⟨Nat.lt_of_lt_of_le h.lt hb.size, (hb.block B hB).trans h.it⟩
theorem ResP.set {w : World} {B : Nat} (h : ResP w B) {p : Addr} (hp : B ≠ p.block) (u : Value) : ResP (w.setCell p u) B := ⟨by simpa [World.setCell] using h.lt, (heap_setCell_other w p B u hp).trans h.it⟩
theorem ResP.cells {w : World} {B : Nat} (h : ResP w B) : (w.cell? ⟨B, 0, none⟩ = some (.int .i64 0) ∧ w.cell? ⟨B, 1, none⟩ = some (.int .i64 0) ∧ w.cell? ⟨B, 2, none⟩ = some (.slice none 0 0) ∧ w.cell? ⟨B, 3, none⟩ = some (.int .i64 0) ∧ w.cell? ⟨B, 4, none⟩ = some (.int .i64 0)) ∧ ∀ j, w.frozen? ⟨B, j, none⟩ = false := by
  have := h.it
  refine ⟨⟨?_, ?_, ?_, ?_, ?_⟩, fun j => ?_⟩ <;> simp [World.cell?, World.frozen?, this]

set_option maxRecDepth 20000 in
set_option maxHeartbeats 4000000 in
theorem heldS_any (q s fr b : Int) (a : Option Addr) (b0 o cap : Nat) (l : List Stp) (c : Option Addr) (cb co ccap : Nat) (zs : List Int) (w : World) (hl0 : 1 ≤ l.length) (hl : l.length ≤ 1048576) (hs : StepsAt w a b0 o l) (hz : IntsAt w c cb co zs) (hn : zs.length ≤ l.length) :
    Calls Try.prog 24 #[.agg #[.int .i64 q, .int .i64 s, .slice a l.length cap, .int .i64 fr, .int .i64 b], .slice c zs.length ccap] w
      fun e w' => ∃ g gcap, e = .returned (.agg #[.int .i64 q, .int .i64 s, .slice (some ⟨g, 0, none⟩) l.length gcap, .int .i64 fr, .int .i64 b]) ∧
        w'.ownsRow w.heap.size 74 7 (.slice (some ⟨g, 0, none⟩) l.length gcap) l.length (stepCells (heldL l zs zs.length)) ∧ Below w.heap.size w w' := by
  go_enter Try.func24, Try.ntmps24
  go_wp2_with fail
  refine (copyS_any _ _ _ _ _ b0 o _ _ _ hl0 hl ((hs.alloc _).alloc _)).mono ?_
  rintro e w1 ⟨g, gcap, rfl, hown1, hb1⟩
  have hg1 := (hown1.lt g rfl).1
  have hgl1 := (hown1.lt g rfl).2
  simp only [World.size_alloc] at hg1 hb1
  have hb01 : Below w.heap.size w w1 := (((Below.refl w.heap.size w).alloc (Nat.le_refl _) _).alloc (by simp) _).trans (hb1.mono (by omega))
  have z1 := hb1.size
  have hx2 := PathAt.new w1 q s fr b (.slice (some ⟨g, 0, none⟩) l.length gcap)
  have hr0 := ResP.new (w.alloc (.cells #[.int .i64 q, .int .i64 s, .slice a l.length cap, .int .i64 fr, .int .i64 b] 36))
  simp only [World.size_alloc] at hr0
  have hr1 := hr0.keep hb1 (by omega)
  have hal : Below w1.heap.size w1 (w1.alloc (.cells #[.int .i64 q, .int .i64 s, .slice (some ⟨g, 0, none⟩) l.length gcap, .int .i64 fr, .int .i64 b] 36)) := (Below.refl w1.heap.size w1).alloc (Nat.le_refl _) _
  have hr2 := hr1.keep hal hr1.lt
  have hb02 := hb01.trans (hal.mono hb01.size)
  have hown2 : (w1.alloc (.cells #[.int .i64 q, .int .i64 s, .slice (some ⟨g, 0, none⟩) l.length gcap, .int .i64 fr, .int .i64 b] 36)).ownsRow w.heap.size 74 7 (.slice (some ⟨g, 0, none⟩) l.length gcap) l.length (stepCells (heldL l zs 0)) := by
    rw [heldL_zero]
    have := owns_below hown1 hal
    refine ⟨this.1, this.2.imp id fun ⟨g, cap, cur, h1, h2, h3⟩ => ⟨g, cap, cur, h1, by simp at h2; omega, h3⟩⟩
  clear hr0 hr1 hal hown1 hb1 z1 hb01
  go_wp2_with fail
  go_loopw [6] (fun u wr => ∃ k : Nat, k ≤ zs.length ∧ u = .int .i64 k ∧ PathAt wr w1.heap.size q s fr b (.slice (some ⟨g, 0, none⟩) l.length gcap) ∧ ResP wr (w.heap.size + 1) ∧ Below w.heap.size w wr ∧ wr.ownsRow w.heap.size 74 7 (.slice (some ⟨g, 0, none⟩) l.length gcap) l.length (stepCells (heldL l zs k))) (fun u _ => zs.length - (intOf u).toNat)
  case atStart => exact ⟨0, Nat.zero_le _, rfl, hx2, hr2, hb02, hown2⟩
  case round =>
    clear hx2 hr2 hb02 hown2
    obtain ⟨k, hk, rfl, hx, hr, hb, hown⟩ := hrel
    obtain ⟨⟨p0, p1, p2, p3, p4⟩, pf⟩ := hx.cells
    obtain ⟨⟨r0, r1, r2, r3, r4⟩, rf⟩ := hr.cells
    by_cases hlt : k < zs.length
    · have hne : zs ≠ [] := by intro e; subst e; simp at hlt
      obtain rfl := hz.here hne
      obtain ⟨z, hzk⟩ : ∃ z, zs[k]? = some z := ⟨zs[k], List.getElem?_eq_getElem hlt⟩
      have hkl : k < l.length := by omega
      obtain ⟨t, ht⟩ : ∃ t, l.getD k .zero = t := ⟨_, rfl⟩
      have hnow := heldL_now l zs k hkl
      rw [ht] at hnow
      have x4 := (hown.cellAt (k * 7 + 4) (by omega)).trans (stepCells_at _ k t 4 hnow (by decide))
      have x5 := (hown.cellAt (k * 7 + 5) (by omega)).trans (stepCells_at _ k t 5 hnow (by decide))
      simp only [List.getElem?_cons_succ, List.getElem?_cons_zero] at x4 x5
      have zc := (hz.below hb hz.lt).cell k z hzk
      have hcb := (hz.below hb hz.lt).lt hne
      have hgr : g < wr.heap.size := (hown.lt g rfl).2
      have hpr : w1.heap.size < wr.heap.size := hx.lt
      have m0 : (0 : Int) ≤ (k : Int) := by omega
      have m1 : (k : Int) < (zs.length : Int) := by omega
      have m2 : (k : Int) < (l.length : Int) := by omega
      obtain ⟨n1, hn1⟩ : ∃ n1, mxB t.fr z = n1 := ⟨_, rfl⟩
      obtain ⟨n2, hn2⟩ : ∃ n2, mnB t.by_ z = n2 := ⟨_, rfl⟩
      have MX : ∀ (W : World), Calls Try.prog 31 #[.int .i64 t.fr, .int .i64 z] W fun e w' => e = .returned (.int .i64 n1) ∧ w' = W := fun W => by rw [← hn1]; exact max_any _ _ _
      have MN : ∀ (W : World), Calls Try.prog 30 #[.int .i64 t.by_, .int .i64 z] W fun e w' => e = .returned (.int .i64 n2) ∧ w' = W := fun W => by rw [← hn2]; exact min_any _ _ _
      have HO : Hid (wr.ownsRow w.heap.size 74 7 (.slice (some ⟨g, 0, none⟩) l.length gcap) l.length (stepCells (heldL l zs k))) := hown
      have HX : Hid (PathAt wr w1.heap.size q s fr b (.slice (some ⟨g, 0, none⟩) l.length gcap)) := hx
      have HR : Hid (ResP wr (w.heap.size + 1)) := hr
      have HB : Hid (Below w.heap.size w wr) := hb
      have hsl : (stepCells (heldL l zs k)).length = l.length * 7 := hown.1
      clear hx hr hb hown hnow pf r0 r1 r2 r3 r4 rf p3 p4 p0 p1
      have qn := Cls.any wr
      have q1 := Cls.cell hgr
      have q2 := Cls.cell hpr
      have q3 := Cls.cell hcb
      go_wp2
      refine wp_region_last (by kernel_rfl) (by simp) (by kernel_rfl) (by kernel_rfl) ?_
      simp only [initL, endL]
      repeat (go_big_quiet_step ((go_at_call 31; exact Calls.cls_of_same (MX _))))
      refine wpQuiet_nil ?_
      rintro _ ⟨u, rfl⟩
      have hownu := owns_below HO.out u.same
      have t0 := (hownu.cellAt (k * 7 + 4) (by omega)).trans ((HO.out.cellAt (k * 7 + 4) (by omega)).symm.trans x4)
      have tf := hownu.frozenAt
      clear q1 q2 q3 qn MX
      go_wp2
      have hown8 := owns_put hownu (j := k * 7 + 4) (by omega) (.int .i64 n1)
      have hx8 := (HX.out.keep u.same hpr).set (p := ⟨g, k * 7 + 4, none⟩) (by show w1.heap.size ≠ g; omega) (.int .i64 n1)
      have hr8 := (HR.out.keep u.same HR.out.lt).set (p := ⟨g, k * 7 + 4, none⟩) (by show w.heap.size + 1 ≠ g; omega) (.int .i64 n1)
      have hb8 := (HB.out.trans (u.same.mono HB.out.size)).setCell (p := ⟨g, k * 7 + 4, none⟩) (by show w.heap.size ≤ g; omega) (.int .i64 n1)
      have z5 : ((stepCells (heldL l zs k)).set (k * 7 + 4) (.int .i64 n1))[k * 7 + 5]? = some (.int .i64 t.by_) := by
        rw [List.getElem?_set_ne (by omega), ← HO.out.cellAt (k * 7 + 5) (by omega)]; exact x5
      clear t0 tf hownu x4 x5 p2 zc hcb
      generalize u.it.setCell ⟨g, k * 7 + 4, none⟩ (.int .i64 n1) = w8 at hown8 hx8 hr8 hb8 ⊢
      have x5 := (hown8.cellAt (k * 7 + 5) (by omega)).trans z5
      obtain ⟨⟨_, _, p2, _, _⟩, _⟩ := hx8.cells
      have zc := (hz.below hb8 hz.lt).cell k z hzk
      have hcb := (hz.below hb8 hz.lt).lt hne
      have hgr8 : g < w8.heap.size := (hown8.lt g rfl).2
      have hpr8 : w1.heap.size < w8.heap.size := hx8.lt
      have qn := Cls.any w8
      have q1 := Cls.cell hgr8
      have q2 := Cls.cell hpr8
      have q3 := Cls.cell hcb
      have HO8 : Hid (w8.ownsRow w.heap.size 74 7 (.slice (some ⟨g, 0, none⟩) l.length gcap) l.length ((stepCells (heldL l zs k)).set (k * 7 + 4) (.int .i64 n1))) := hown8
      have HX8 : Hid (PathAt w8 w1.heap.size q s fr b (.slice (some ⟨g, 0, none⟩) l.length gcap)) := hx8
      have HR8 : Hid (ResP w8 (w.heap.size + 1)) := hr8
      have HB8 : Hid (Below w.heap.size w w8) := hb8
      clear hx8 hr8 hb8 hown8 hpr hgr HX HR HB
      refine wp_region_last (by kernel_rfl) (by simp) (by kernel_rfl) (by kernel_rfl) ?_
      simp only [initL, endL]
      repeat (go_big_quiet_step ((go_at_call 30; exact Calls.cls_of_same (MN _))))
      refine wpQuiet_nil ?_
      rintro _ ⟨u2, rfl⟩
      have hownu := owns_below HO8.out u2.same
      have t0 := (hownu.cellAt (k * 7 + 5) (by omega)).trans z5
      have tf := hownu.frozenAt
      clear q1 q2 q3 qn MN
      go_wp2
      have hown9 := owns_put hownu (j := k * 7 + 5) (by omega) (.int .i64 n2)
      have hx9 := (HX8.out.keep u2.same hpr8).set (p := ⟨g, k * 7 + 5, none⟩) (by show w1.heap.size ≠ g; omega) (.int .i64 n2)
      have hr9 := (HR8.out.keep u2.same HR8.out.lt).set (p := ⟨g, k * 7 + 5, none⟩) (by show w.heap.size + 1 ≠ g; omega) (.int .i64 n2)
      have hb9 := (HB8.out.trans (u2.same.mono HB8.out.size)).setCell (p := ⟨g, k * 7 + 5, none⟩) (by show w.heap.size ≤ g; omega) (.int .i64 n2)
      have ER : stepCells (heldL l zs (k + 1)) = ((stepCells (heldL l zs k)).set (k * 7 + 4) (.int .i64 n1)).set (k * 7 + 5) (.int .i64 n2) := by
        have hgz : zs.getD k 0 = z := by rw [List.getD_eq_getElem?_getD, hzk]; rfl
        have hnow := heldL_now l zs k hkl
        rw [heldL_succ, ht, hgz, ← hn1, ← hn2]
        rw [ht] at hnow
        exact stepCells_set _ k t (t.hold z) hnow rfl
      rw [← ER] at hown9
      go_roundw
      case rel => exact ⟨k + 1, by omega, by go_num, hx9, hr9, hb9, hown9⟩
      case measure => simp [intOf]; omega
    · obtain rfl : k = zs.length := by omega
      go_wp2
      refine bodyPost_ret (v := .agg #[.int .i64 q, .int .i64 s, .slice (some ⟨g, 0, none⟩) l.length gcap, .int .i64 fr, .int .i64 b]) (by simp [results, Try.results24, go_sem, *]) rfl ⟨g, gcap, rfl, ?_, ?_⟩
      · have hh : ∀ j, (Value.slice (some ⟨g, 0, none⟩) l.length gcap).ownBlock = some j → j ≠ w.heap.size + 1 := fun j e => by simp [Value.ownBlock] at e; omega
        iterate 5 (refine owns_set ?_ (fun j e => hh j e) _ _)
        exact hown
      · iterate 5 (refine Below.setCell ?_ (by simp <;> omega) _)
        exact hb
end Go.Proofs.Ytndfacmfjilbkai
