/- The program's canBeIn and left, by their contracts. -/
import Derived.Test.YtijcdikekgmfoaaGreatDoorRestData
import Derived.Test.YtijcdikekgmfoaaGreatDoorCloneS
import Derived.Test.YtijcdikekgmfoaaGreatDoorSpanLeaf
import Derived.Test.YtijcdikekgmfoaaGreatDoorImplPath
import Derived.Test.YtijcdikekgmfoaaGreatDoorFollow2
import Derived.Test.YtijcdikekgmfoaaGreatDoorSpanSaid
import Derived.Deep.RegionHeld3
namespace Go.Proofs.YtijcdikekgmfoaaGreatDoor
open Go.RowKit

abbrev nothingV (str : ByteArray) : Value := .iface 154 (.agg #[.string str])

theorem canBe_yes (q s fr b st nw : Int) (a : Option Addr) (b0 o cap : Nat) (l : List Stp) (w : World) (hl : l.length ≤ 1048576) (hs : StepsAt w a b0 o l) (h : inStepB q s fr b l st nw = true) :
    Calls Tryz.prog 106 #[.agg #[.int .i64 q, .int .i64 s, .slice a l.length cap, .int .i64 fr, .int .i64 b], .int .i64 st, .int .i64 nw] w fun e w' => e = .returned .nilIface ∧ Below w.heap.size w w' := by
  unfold inStepB at h
  simp only [Bool.and_eq_true] at h
  obtain ⟨⟨hp, h1⟩, h2⟩ := h
  have h1' := (inB_iff _ _ _).1 h1
  have h2' := (inB_iff _ _ _).1 h2
  have hB0 := BoxP.new w q s fr b (.slice a l.length cap) 27
  have n1 : ¬ st < 0 := by omega
  have n2 : ¬ (l.length : Int) ≤ st := by omega
  have n3 : ¬ nw < 0 := by omega
  have n4 : ¬ 10000 < nw := by omega
  clear h1 h2 h1' h2'
  go_enter Tryz.func106, Tryz.ntmps106
  go_wp2_with fail
  refine (pathOk_any follow_any q s fr b a b0 o cap l _ hl (hs.alloc _)).mono ?_
  rw [hp]
  rintro e w1 ⟨rfl, hb1⟩
  have hB1 := hB0.below hb1
  have c2 := hB1.p2
  go_wp2
  go_ret
  exact ⟨rfl, hB1.old⟩

theorem canBe_no (q s fr b st nw : Int) (a : Option Addr) (b0 o cap : Nat) (l : List Stp) (w : World) (hl : l.length ≤ 1048576) (hs : StepsAt w a b0 o l) (h : inStepB q s fr b l st nw = false) :
    Calls Tryz.prog 106 #[.agg #[.int .i64 q, .int .i64 s, .slice a l.length cap, .int .i64 fr, .int .i64 b], .int .i64 st, .int .i64 nw] w fun e w' => ∃ str, e = .returned (nothingV str) ∧ Below w.heap.size w w' := by
  have hB0 := BoxP.new w q s fr b (.slice a l.length cap) 27
  go_enter Tryz.func106, Tryz.ntmps106
  go_wp2_with fail
  refine (pathOk_any follow_any q s fr b a b0 o cap l _ hl (hs.alloc _)).mono ?_
  rintro e w1 ⟨rfl, hb1⟩
  have hB1 := hB0.below hb1
  have c2 := hB1.p2
  cases hp : pathB q s fr b l with
  | false =>
    go_wp2
    go_ret
    exact ⟨_, rfl, hB1.old⟩
  | true =>
    by_cases n1 : st < 0
    · go_wp2
      go_ret
      exact ⟨_, rfl, hB1.old⟩
    · by_cases n2 : (l.length : Int) ≤ st
      · go_wp2
        go_ret
        exact ⟨_, rfl, hB1.old⟩
      · by_cases n3 : nw < 0
        · go_wp2
          go_ret
          exact ⟨_, rfl, hB1.old⟩
        · by_cases n4 : 10000 < nw
          · go_wp2
            go_ret
            exact ⟨_, rfl, hB1.old⟩
          · exfalso
            have h1 : inB st 0 ((l.length : Int) - 1) = true := (inB_iff _ _ _).2 (by omega)
            have h2 : inB nw 0 10000 = true := (inB_iff _ _ _).2 (by omega)
            unfold inStepB at h
            rw [hp, h1, h2] at h
            cases h

/-- The steps from one on lie where the later part of the row lies. -/
theorem StepsAt.tail {w : World} {a : Option Addr} {b o : Nat} {l : List Stp} (h : StepsAt w a b o l) (k : Nat) : StepsAt w (some ⟨b, o + k * 7, none⟩) b (o + k * 7) (l.drop k) where
  here _ := rfl
  lt hl := h.lt (by intro e; subst e; simp at hl)
  cell i s hi j u hu := by
    rw [List.getElem?_drop] at hi
    have := h.cell (k + i) s hi j u hu
    rw [show o + k * 7 + i * 7 + j = o + (k + i) * 7 + j by omega]
    exact this

/-- What lies while the program cuts a path. -/
structure LfI (w wr : World) (q s fr b x y : Int) (v : Value) (l : List Stp) : Prop where
  old : Below w.heap.size w wr
  pa : PathAt wr w.heap.size q s fr b v
  en : wr.heap[w.heap.size + 1]? = some (.cells #[.int .i64 x, .int .i64 y] 56 (0, 0))
  res : PathAt wr (w.heap.size + 1 + 1) 0 0 0 0 (.slice none 0 0)
  own : wr.ownsRow (w.heap.size + 3) 44 7 v l.length (stepCells l)
section
variable {w wr w' : World} {q s fr b x y : Int} {v : Value} {l : List Stp}
theorem LfI.below (h : LfI w wr q s fr b x y v l) (hb : Below wr.heap.size wr w') : LfI w w' q s fr b x y v l :=
  ⟨h.old.trans (hb.mono h.old.size), h.pa.keep hb h.pa.lt, (hb.block _ (lt_of_block h.en)).trans h.en, h.res.keep hb h.res.lt, owns_below h.own hb⟩
theorem LfI.drew (h : LfI w wr q s fr b x y v l) : LfI w wr.drew q s fr b x y v l := h.below (Below.refl _ _).drew
theorem LfI.put {g gc : Nat} (h : LfI w wr q s fr b x y (.slice (some ⟨g, 0, none⟩) l.length gc) l) {i j : Nat} {t t' : Stp} {u : Value} (ht : l[i]? = some t) (hj : j < 7) (he : t'.cells = t.cells.set j u) :
    LfI w (wr.setCell ⟨g, i * 7 + j, none⟩ u) q s fr b x y (.slice (some ⟨g, 0, none⟩) (l.set i t').length gc) (l.set i t') := by
  rw [List.length_set]
  have h2 := owns_base h.own g rfl
  have hi : i < l.length := (List.getElem?_eq_some_iff.1 ht).1
  refine ⟨h.old.setCell (p := ⟨g, i * 7 + j, none⟩) (by show _ ≤ g; omega) u, h.pa.set (by show w.heap.size ≠ g; omega) u, (heap_setCell_other _ ⟨g, i * 7 + j, none⟩ _ u (by show w.heap.size + 1 ≠ g; omega)).trans h.en, h.res.set (by show w.heap.size + 1 + 1 ≠ g; omega) u, ?_⟩
  have h3 := owns_put h.own (j := i * 7 + j) (by omega) u
  rw [stepCells_put l i j t t' u ht hj he] at h3
  simpa using h3
theorem LfI.setX (h : LfI w wr q s fr b x y v l) (j : Nat) (u : Value) {q' s' fr' b' : Int} {v' : Value} {l' : List Stp}
    (he : #[Value.int .i64 q, .int .i64 s, v, .int .i64 fr, .int .i64 b].setIfInBounds j u = #[.int .i64 q', .int .i64 s', v', .int .i64 fr', .int .i64 b']) (ho : wr.ownsRow (w.heap.size + 3) 44 7 v' l'.length (stepCells l')) :
    LfI w (wr.setCell ⟨w.heap.size, j, none⟩ u) q' s' fr' b' x y v' l' := by
  refine ⟨h.old.setCell (p := ⟨w.heap.size, j, none⟩) (Nat.le_refl _) u, ⟨?_⟩, (heap_setCell_other _ ⟨w.heap.size, j, none⟩ _ u (by show w.heap.size + 1 ≠ w.heap.size; omega)).trans h.en, h.res.set (by show w.heap.size + 1 + 1 ≠ w.heap.size; omega) u, owns_set ho (fun k hk => by have := owns_base ho k hk; omega) j u⟩
  rw [heap_setCell_same _ w.heap.size j _ _ u h.pa.it, he]
end

/-- What left answers: a path and nil, or nothing and why. -/
def LeftGives (A : Ans) (w : World) (e : Ending) (w' : World) : Prop :=
  Below w.heap.size w w' ∧ ((A.ok = true ∧ ∃ g gc, e = .returned (.tuple #[.agg #[.int .i64 A.q, .int .i64 A.s, .slice (some ⟨g, 0, none⟩) A.l.length gc, .int .i64 A.fr, .int .i64 A.b], .nilIface]) ∧ w'.ownsRow w.heap.size 44 7 (.slice (some ⟨g, 0, none⟩) A.l.length gc) A.l.length (stepCells A.l)) ∨
    (A = .no ∧ ∃ str, e = .returned (.tuple #[.agg #[.int .i64 0, .int .i64 0, .slice none 0 0, .int .i64 0, .int .i64 0], nothingV str])))

set_option maxRecDepth 20000 in
set_option maxHeartbeats 4000000 in
theorem left_any (hI : SpansSaid) (q s fr b x y nw : Int) (k : Nat) (a : Option Addr) (b0 o cap : Nat) (l : List Stp) (w : World) (hs : StepsAt w a b0 o l) (hcap : l.length ≤ cap) (hp : pathB q s fr b l = true) (hk : k < l.length) (hx : 0 ≤ x) (hy : y ≤ 10000) (hn : 0 ≤ nw ∧ nw ≤ 10000) :
    Calls Tryz.prog 107 #[.agg #[.int .i64 q, .int .i64 s, .slice a l.length cap, .int .i64 fr, .int .i64 b], .int .i64 (k : Int), .agg #[.int .i64 x, .int .i64 y], .int .i64 nw] w (LeftGives (canA q s (leftFr fr l k nw) b (leftL l k x y nw)) w) := by
  have hlen := path_len hp
  have hne : l ≠ [] := by intro e; subst e; simp at hlen
  obtain rfl := hs.here hne
  have Q0 := PathAt.new w q s fr b (.slice (some ⟨b0, o, none⟩) l.length cap)
  have k0 : (0 : Int) ≤ (k : Int) := by omega
  have k1 : (k : Int) < (l.length : Int) := by omega
  have k2 : (l.length : Int) ≤ (cap : Int) := by omega
  have k3 : (k : Int) ≤ (l.length : Int) := by omega
  go_enter Tryz.func107, Tryz.ntmps107
  go_wp2_with fail
  obtain ⟨m, hm⟩ : ∃ m, l.drop k = m := ⟨_, rfl⟩
  have hml : m.length = l.length - k := by rw [← hm, List.length_drop]
  have hC := cloneS_any b0 (o + k * 7) (cap - k) m (((w.alloc (.cells #[.int .i64 q, .int .i64 s, .slice (some ⟨b0, o, none⟩) l.length cap, .int .i64 fr, .int .i64 b] 27)).alloc (.cells #[.int .i64 x, .int .i64 y] 56)).alloc (.cells #[.int .i64 0, .int .i64 0, .slice none 0 0, .int .i64 0, .int .i64 0] 27)) (by omega) (by omega) (by rw [← hm]; exact (((hs.alloc _).alloc _).alloc _).tail k)
  rw [hml] at hC
  refine hC.mono ?_
  rintro e w1 ⟨g, gc, rfl, ho1, hb1⟩
  clear hC
  have D0 : LfI w (w1.setCell ⟨w.heap.size, 2, none⟩ (.slice (some ⟨g, 0, none⟩) (l.length - k) gc)) q s fr b x y (.slice (some ⟨g, 0, none⟩) m.length gc) m := by
    have ho1' : w1.ownsRow (w.heap.size + 3) 44 7 (.slice (some ⟨g, 0, none⟩) m.length gc) m.length (stepCells m) := by rw [hml]; simpa using ho1
    have B0 : Below w.heap.size w (((w.alloc (.cells #[.int .i64 q, .int .i64 s, .slice (some ⟨b0, o, none⟩) l.length cap, .int .i64 fr, .int .i64 b] 27)).alloc (.cells #[.int .i64 x, .int .i64 y] 56)).alloc (.cells #[.int .i64 0, .int .i64 0, .slice none 0 0, .int .i64 0, .int .i64 0] 27)) := (((Below.refl _ _).alloc (Nat.le_refl _) _).alloc (by simp) _).alloc (by simp; omega) _
    have B1 := B0.trans (hb1.mono B0.size)
    have P0 := PathAt.new ((w.alloc (.cells #[.int .i64 q, .int .i64 s, .slice (some ⟨b0, o, none⟩) l.length cap, .int .i64 fr, .int .i64 b] 27)).alloc (.cells #[.int .i64 x, .int .i64 y] 56)) 0 0 0 0 (.slice none 0 0)
    rw [World.size_alloc, World.size_alloc] at P0
    have P1 := P0.keep hb1 P0.lt
    have e0 := heap_alloc_new (w.alloc (.cells #[.int .i64 q, .int .i64 s, .slice (some ⟨b0, o, none⟩) l.length cap, .int .i64 fr, .int .i64 b] 27)) (.cells #[.int .i64 x, .int .i64 y] 56)
    rw [World.size_alloc] at e0
    have al : Below (w.heap.size + 1 + 1) ((w.alloc (.cells #[.int .i64 q, .int .i64 s, .slice (some ⟨b0, o, none⟩) l.length cap, .int .i64 fr, .int .i64 b] 27)).alloc (.cells #[.int .i64 x, .int .i64 y] 56)) (((w.alloc (.cells #[.int .i64 q, .int .i64 s, .slice (some ⟨b0, o, none⟩) l.length cap, .int .i64 fr, .int .i64 b] 27)).alloc (.cells #[.int .i64 x, .int .i64 y] 56)).alloc (.cells #[.int .i64 0, .int .i64 0, .slice none 0 0, .int .i64 0, .int .i64 0] 27)) := (Below.refl _ _).alloc (by simp) _
    have e1 := (al.block (w.heap.size + 1) (by omega)).trans e0
    have e2 := (hb1.block (w.heap.size + 1) (by simp)).trans e1
    have Q1 := (Q0.keep ((Below.refl _ _).alloc (Nat.le_refl _) (.cells #[.int .i64 x, .int .i64 y] 56)) Q0.lt).keep al (by omega)
    have Q2 := Q1.keep hb1 Q1.lt
    refine ⟨B1.setCell (p := ⟨w.heap.size, 2, none⟩) (Nat.le_refl _) _, ⟨?_⟩, (heap_setCell_other _ ⟨w.heap.size, 2, none⟩ _ _ (by show w.heap.size + 1 ≠ w.heap.size; omega)).trans e2, P1.set (by show w.heap.size + 1 + 1 ≠ w.heap.size; omega) _, owns_set ho1' (fun k hk => by have := owns_base ho1' k hk; omega) 2 _⟩
    rw [heap_setCell_same _ w.heap.size 2 _ _ _ Q2.it, hml]
    rfl
  have hgX : w.heap.size + 3 ≤ g := owns_base D0.own g rfl
  have g2 : w1.cell? ⟨w.heap.size, 2, none⟩ = some (.slice (some ⟨b0, o, none⟩) l.length cap) ∧ w1.frozen? ⟨w.heap.size, 2, none⟩ = false := by
    have Q1 := (Q0.keep ((Below.refl _ _).alloc (Nat.le_refl _) (.cells #[.int .i64 x, .int .i64 y] 56)) Q0.lt).keep ((Below.refl _ _).alloc (Nat.le_refl _) (.cells #[.int .i64 0, .int .i64 0, .slice none 0 0, .int .i64 0, .int .i64 0] 27)) (by simp <;> omega)
    have Q2 := Q1.keep hb1 Q1.lt
    exact ⟨Q2.cells.1.2.2.1, Q2.cells.2 2⟩
  obtain ⟨g2, gf⟩ := g2
  clear ho1 hb1 Q0
  go_wp2
  clear g2 gf
  generalize w1.setCell ⟨w.heap.size, 2, none⟩ (.slice (some ⟨g, 0, none⟩) (l.length - k) gc) = W0 at *
  have m1 : 1 ≤ m.length := by omega
  obtain ⟨t, ht⟩ : ∃ t, m[0]? = some t := ⟨_, List.getElem?_eq_getElem (by omega)⟩
  have htd : m.getD 0 .zero = t := by rw [List.getD_eq_getElem?_getD, ht]; rfl
  have D2 : Hid (LfI w ((W0.setCell ⟨g, 4, none⟩ (.int .i64 x)).setCell ⟨g, 5, none⟩ (.int .i64 y)).drew q s fr b x y (.slice (some ⟨g, 0, none⟩) (enterL m x y).length gc) (enterL m x y)) := by
    have D1 := D0.put (t' := { t with fr := x }) ht (j := 4) (u := .int .i64 x) (by decide) rfl
    have hn2 : (m.set 0 { t with fr := x })[0]? = some { t with fr := x } := List.getElem?_set_self (by omega)
    have D2 := D1.put (t' := { t with fr := x, by_ := y }) hn2 (j := 5) (u := .int .i64 y) (by decide) rfl
    rw [List.set_set] at D2
    unfold enterL
    rw [htd]
    exact D2.drew
  have hml' : (m.length : Int) = (l.length : Int) - (k : Int) := by omega
  have c4 := (D0.own.cellAt 4 (by omega)).trans (stepCells_at _ 0 t 4 ht (by decide))
  have c5 := (D0.own.cellAt 5 (by omega)).trans (stepCells_at _ 0 t 5 ht (by decide))
  have cf := D0.own.frozenAt
  obtain ⟨⟨e0, e1, e2, e3, e4⟩, ef⟩ := D0.pa.cells
  rw [hml] at e2
  obtain ⟨y0, y1, yf⟩ := blk2 D0.en
  have l0 : 0 < l.length - k := by omega
  have gn0 : g ≠ w.heap.size := by omega
  have gn1 : g ≠ w.heap.size + 1 := by omega
  clear D0
  go_region_held3 (fun w' => w'.cell? ⟨w.heap.size, 2, none⟩ = some (.slice (some ⟨g, 0, none⟩) (l.length - k) gc) ∧ w'.cell? ⟨w.heap.size + 1, 0, none⟩ = some (.int .i64 x) ∧ w'.cell? ⟨w.heap.size + 1, 1, none⟩ = some (.int .i64 y))
    (simp [go_sem, *])
    (fail)
  have D2' := D2.out
  clear D2 c4 c5 cf e0 e1 e2 e3 e4 ef y0 y1 yf
  generalize ((W0.setCell ⟨g, 4, none⟩ (.int .i64 x)).setCell ⟨g, 5, none⟩ (.int .i64 y)).drew = W2 at *
  have hel : (enterL m x y).length = l.length - k := by rw [enterL_length, hml]
  have cf := D2'.own.frozenAt
  obtain ⟨⟨e0, e1, e2, e3, e4⟩, ef⟩ := D2'.pa.cells
  rw [hel] at e2
  obtain ⟨n0, n1⟩ := hn
  have FIN : Hid (leftFr fr l k nw = afterFr fr m nw ∧ leftL l k x y nw = afterL (enterL m x y) nw) := ⟨by unfold leftFr; rw [hm], by unfold leftL; rw [hm]⟩
  have hlL : (leftL l k x y nw).length = l.length - k := leftL_length l k x y nw
  have HSP : ∀ (F : Int) (W : World), leftFr fr l k nw = F → LfI w W q s F b x y (.slice (some ⟨g, 0, none⟩) (l.length - k) gc) (leftL l k x y nw) →
      Calls Tryz.prog 10 #[.agg #[.int .i64 q, .int .i64 s, .slice (some ⟨g, 0, none⟩) (l.length - k) gc, .int .i64 F, .int .i64 b]] W fun e w' => ∃ v, e = .returned (.tuple #[v, .bool (spanB q s F b (leftL l k x y nw))]) ∧ Below W.heap.size W w' := fun F W hF hW => by
    have ho := hW.own
    rw [hlL] at ho
    have hc := hI q s F b (some ⟨g, 0, none⟩) g 0 gc (leftL l k x y nw) W (by rw [hlL]; omega) (steps_owned ho)
    rw [hlL] at hc
    refine hc.mono fun e w' ⟨v, he, _, hb⟩ => ⟨v, ?_, hb⟩
    have hfl : flyB q s F b (leftL l k x y nw) = spanB q s F b (leftL l k x y nw) := by
      unfold flyB
      cases hsp : spanB q s F b (leftL l k x y nw) with
      | false => rw [Bool.and_false]
      | true =>
        rw [← hF] at hsp ⊢
        rw [left_path hp hk hx hy n0 hsp]
        rfl
    rw [he, hfl]
  by_cases h1 : 1 < l.length - k
  · obtain ⟨u, hu⟩ : ∃ u, m[1]? = some u := ⟨_, List.getElem?_eq_getElem (by omega)⟩
    have hu' : (enterL m x y)[1]? = some u := by unfold enterL; rw [List.getElem?_set_ne (by decide)]; exact hu
    have hud : (enterL m x y).getD 1 .zero = u := by rw [List.getD_eq_getElem?_getD, hu']; rfl
    have c11 : W2.cell? ⟨g, 11, none⟩ = some (.int .i64 u.fr) := (D2'.own.cellAt 11 (by rw [hel]; omega)).trans (stepCells_at _ 1 u 4 hu' (by decide))
    have hFR : leftFr fr l k nw = fr := by rw [FIN.out.1]; unfold afterFr; rw [if_pos (by omega)]
    have PUT : ∀ z, mxB u.fr (nw + 1) = z → LfI w (W2.setCell ⟨g, 11, none⟩ (.int .i64 z)) q s fr b x y (.slice (some ⟨g, 0, none⟩) (leftL l k x y nw).length gc) (leftL l k x y nw) := fun z hz => by
      have D3 := D2'.put (t' := { u with fr := z }) hu' (j := 4) (u := .int .i64 z) (by decide) rfl
      rw [FIN.out.2]
      unfold afterL
      rw [if_pos (by rw [hel]; exact h1), hud, hz]
      exact D3
    rw [hlL] at PUT
    by_cases hmx : u.fr < nw + 1
    · have D3 := PUT (nw + 1) (mx_hi hmx)
      clear PUT D2'
      go_wp2_with fail
      refine (HSP fr _ hFR D3).mono ?_
      rintro e w5 ⟨v5, rfl, hb5⟩
      have D5 := D3.below hb5
      clear D3 hb5 HSP c11 cf e0 e1 e2 e3 e4 ef
      obtain ⟨⟨e0, e1, e2, e3, e4⟩, ef⟩ := D5.pa.cells
      obtain ⟨⟨f0, f1, f2, f3, f4⟩, ff⟩ := D5.res.cells
      cases hsp : spanB q s (fr) b (leftL l k x y nw) with
      | false =>
        have HA : Hid (canA q s (leftFr fr l k nw) b (leftL l k x y nw) = .no) := by show _ = _; unfold canA; rw [hFR, hsp]; rfl
        clear hFR hsp
        go_wp2
        refine bodyPost_ret (v := .tuple #[.agg #[.int .i64 0, .int .i64 0, .slice none 0 0, .int .i64 0, .int .i64 0], nothingV ⟨#[116, 104, 101, 114, 101, 32, 105, 115, 32, 110, 111, 32, 102, 108, 105, 103, 104, 116, 32, 97, 110, 121, 32, 109, 111, 114, 101]⟩]) (by simp [results, Tryz.results107, go_sem, *]) rfl ⟨?_, Or.inr ⟨HA.out, _, rfl⟩⟩
        iterate 5 (refine Below.setCell ?_ (by show _ ≤ w.heap.size + 1 + 1; omega) _)
        exact D5.old
      | true =>
        have HA : Hid (canA q s (leftFr fr l k nw) b (leftL l k x y nw) = { q := q, s := s, fr := fr, b := b, l := leftL l k x y nw, ok := true }) := by show _ = _; unfold canA; rw [hFR, hsp]; rfl
        clear hFR hsp
        go_wp2
        refine bodyPost_ret (v := .tuple #[.agg #[.int .i64 q, .int .i64 s, .slice (some ⟨g, 0, none⟩) (l.length - k) gc, .int .i64 (fr), .int .i64 b], .nilIface]) (by simp [results, Tryz.results107, go_sem, *]) rfl ⟨?_, Or.inl ?_⟩
        · iterate 5 (refine Below.setCell ?_ (by show _ ≤ w.heap.size + 1 + 1; omega) _)
          exact D5.old
        · rw [HA.out]
          refine ⟨rfl, g, gc, by rw [hlL], ?_⟩
          have hh : ∀ j, (Value.slice (some ⟨g, 0, none⟩) (leftL l k x y nw).length gc).ownBlock = some j → j ≠ w.heap.size + 1 + 1 := fun j e => by simp [Value.ownBlock] at e; omega
          have ho := D5.own
          rw [← hlL] at ho
          iterate 5 (refine owns_set ?_ hh _ _)
          exact ⟨ho.1, ho.2.imp id fun ⟨g, cap, cur, h1, h2, h3⟩ => ⟨g, cap, cur, h1, by omega, h3⟩⟩
    · have D3 := PUT u.fr (mx_lo (by omega))
      clear PUT D2'
      go_wp2_with fail
      refine (HSP fr _ hFR D3).mono ?_
      rintro e w5 ⟨v5, rfl, hb5⟩
      have D5 := D3.below hb5
      clear D3 hb5 HSP c11 cf e0 e1 e2 e3 e4 ef
      obtain ⟨⟨e0, e1, e2, e3, e4⟩, ef⟩ := D5.pa.cells
      obtain ⟨⟨f0, f1, f2, f3, f4⟩, ff⟩ := D5.res.cells
      cases hsp : spanB q s (fr) b (leftL l k x y nw) with
      | false =>
        have HA : Hid (canA q s (leftFr fr l k nw) b (leftL l k x y nw) = .no) := by show _ = _; unfold canA; rw [hFR, hsp]; rfl
        clear hFR hsp
        go_wp2
        refine bodyPost_ret (v := .tuple #[.agg #[.int .i64 0, .int .i64 0, .slice none 0 0, .int .i64 0, .int .i64 0], nothingV ⟨#[116, 104, 101, 114, 101, 32, 105, 115, 32, 110, 111, 32, 102, 108, 105, 103, 104, 116, 32, 97, 110, 121, 32, 109, 111, 114, 101]⟩]) (by simp [results, Tryz.results107, go_sem, *]) rfl ⟨?_, Or.inr ⟨HA.out, _, rfl⟩⟩
        iterate 5 (refine Below.setCell ?_ (by show _ ≤ w.heap.size + 1 + 1; omega) _)
        exact D5.old
      | true =>
        have HA : Hid (canA q s (leftFr fr l k nw) b (leftL l k x y nw) = { q := q, s := s, fr := fr, b := b, l := leftL l k x y nw, ok := true }) := by show _ = _; unfold canA; rw [hFR, hsp]; rfl
        clear hFR hsp
        go_wp2
        refine bodyPost_ret (v := .tuple #[.agg #[.int .i64 q, .int .i64 s, .slice (some ⟨g, 0, none⟩) (l.length - k) gc, .int .i64 (fr), .int .i64 b], .nilIface]) (by simp [results, Tryz.results107, go_sem, *]) rfl ⟨?_, Or.inl ?_⟩
        · iterate 5 (refine Below.setCell ?_ (by show _ ≤ w.heap.size + 1 + 1; omega) _)
          exact D5.old
        · rw [HA.out]
          refine ⟨rfl, g, gc, by rw [hlL], ?_⟩
          have hh : ∀ j, (Value.slice (some ⟨g, 0, none⟩) (leftL l k x y nw).length gc).ownBlock = some j → j ≠ w.heap.size + 1 + 1 := fun j e => by simp [Value.ownBlock] at e; omega
          have ho := D5.own
          rw [← hlL] at ho
          iterate 5 (refine owns_set ?_ hh _ _)
          exact ⟨ho.1, ho.2.imp id fun ⟨g, cap, cur, h1, h2, h3⟩ => ⟨g, cap, cur, h1, by omega, h3⟩⟩
  · have hlE : leftL l k x y nw = enterL m x y := by rw [FIN.out.2]; unfold afterL; rw [if_neg (by rw [hel]; omega)]
    have PUT : ∀ z, mxB fr (nw + 1) = z → leftFr fr l k nw = z ∧ LfI w (W2.setCell ⟨w.heap.size, 3, none⟩ (.int .i64 z)) q s z b x y (.slice (some ⟨g, 0, none⟩) (leftL l k x y nw).length gc) (leftL l k x y nw) := fun z hz => by
      refine ⟨by rw [FIN.out.1]; unfold afterFr; rw [if_neg (by omega)]; exact hz, ?_⟩
      rw [hlE]
      exact D2'.setX 3 (.int .i64 z) (q' := q) (s' := s) (fr' := z) (b' := b) (v' := .slice (some ⟨g, 0, none⟩) (enterL m x y).length gc) (l' := enterL m x y) rfl D2'.own
    rw [hlL] at PUT
    by_cases hmx : fr < nw + 1
    · obtain ⟨hFR, D3⟩ := PUT (nw + 1) (mx_hi hmx)
      clear PUT D2'
      go_wp2_with fail
      refine (HSP (nw + 1) _ hFR D3).mono ?_
      rintro e w5 ⟨v5, rfl, hb5⟩
      have D5 := D3.below hb5
      clear D3 hb5 HSP cf e0 e1 e2 e3 e4 ef
      obtain ⟨⟨e0, e1, e2, e3, e4⟩, ef⟩ := D5.pa.cells
      obtain ⟨⟨f0, f1, f2, f3, f4⟩, ff⟩ := D5.res.cells
      cases hsp : spanB q s (nw + 1) b (leftL l k x y nw) with
      | false =>
        have HA : Hid (canA q s (leftFr fr l k nw) b (leftL l k x y nw) = .no) := by show _ = _; unfold canA; rw [hFR, hsp]; rfl
        clear hFR hsp
        go_wp2
        refine bodyPost_ret (v := .tuple #[.agg #[.int .i64 0, .int .i64 0, .slice none 0 0, .int .i64 0, .int .i64 0], nothingV ⟨#[116, 104, 101, 114, 101, 32, 105, 115, 32, 110, 111, 32, 102, 108, 105, 103, 104, 116, 32, 97, 110, 121, 32, 109, 111, 114, 101]⟩]) (by simp [results, Tryz.results107, go_sem, *]) rfl ⟨?_, Or.inr ⟨HA.out, _, rfl⟩⟩
        iterate 5 (refine Below.setCell ?_ (by show _ ≤ w.heap.size + 1 + 1; omega) _)
        exact D5.old
      | true =>
        have HA : Hid (canA q s (leftFr fr l k nw) b (leftL l k x y nw) = { q := q, s := s, fr := nw + 1, b := b, l := leftL l k x y nw, ok := true }) := by show _ = _; unfold canA; rw [hFR, hsp]; rfl
        clear hFR hsp
        go_wp2
        refine bodyPost_ret (v := .tuple #[.agg #[.int .i64 q, .int .i64 s, .slice (some ⟨g, 0, none⟩) (l.length - k) gc, .int .i64 (nw + 1), .int .i64 b], .nilIface]) (by simp [results, Tryz.results107, go_sem, *]) rfl ⟨?_, Or.inl ?_⟩
        · iterate 5 (refine Below.setCell ?_ (by show _ ≤ w.heap.size + 1 + 1; omega) _)
          exact D5.old
        · rw [HA.out]
          refine ⟨rfl, g, gc, by rw [hlL], ?_⟩
          have hh : ∀ j, (Value.slice (some ⟨g, 0, none⟩) (leftL l k x y nw).length gc).ownBlock = some j → j ≠ w.heap.size + 1 + 1 := fun j e => by simp [Value.ownBlock] at e; omega
          have ho := D5.own
          rw [← hlL] at ho
          iterate 5 (refine owns_set ?_ hh _ _)
          exact ⟨ho.1, ho.2.imp id fun ⟨g, cap, cur, h1, h2, h3⟩ => ⟨g, cap, cur, h1, by omega, h3⟩⟩
    · obtain ⟨hFR, D3⟩ := PUT fr (mx_lo (by omega))
      clear PUT D2'
      go_wp2_with fail
      refine (HSP fr _ hFR D3).mono ?_
      rintro e w5 ⟨v5, rfl, hb5⟩
      have D5 := D3.below hb5
      clear D3 hb5 HSP cf e0 e1 e2 e3 e4 ef
      obtain ⟨⟨e0, e1, e2, e3, e4⟩, ef⟩ := D5.pa.cells
      obtain ⟨⟨f0, f1, f2, f3, f4⟩, ff⟩ := D5.res.cells
      cases hsp : spanB q s (fr) b (leftL l k x y nw) with
      | false =>
        have HA : Hid (canA q s (leftFr fr l k nw) b (leftL l k x y nw) = .no) := by show _ = _; unfold canA; rw [hFR, hsp]; rfl
        clear hFR hsp
        go_wp2
        refine bodyPost_ret (v := .tuple #[.agg #[.int .i64 0, .int .i64 0, .slice none 0 0, .int .i64 0, .int .i64 0], nothingV ⟨#[116, 104, 101, 114, 101, 32, 105, 115, 32, 110, 111, 32, 102, 108, 105, 103, 104, 116, 32, 97, 110, 121, 32, 109, 111, 114, 101]⟩]) (by simp [results, Tryz.results107, go_sem, *]) rfl ⟨?_, Or.inr ⟨HA.out, _, rfl⟩⟩
        iterate 5 (refine Below.setCell ?_ (by show _ ≤ w.heap.size + 1 + 1; omega) _)
        exact D5.old
      | true =>
        have HA : Hid (canA q s (leftFr fr l k nw) b (leftL l k x y nw) = { q := q, s := s, fr := fr, b := b, l := leftL l k x y nw, ok := true }) := by show _ = _; unfold canA; rw [hFR, hsp]; rfl
        clear hFR hsp
        go_wp2
        refine bodyPost_ret (v := .tuple #[.agg #[.int .i64 q, .int .i64 s, .slice (some ⟨g, 0, none⟩) (l.length - k) gc, .int .i64 (fr), .int .i64 b], .nilIface]) (by simp [results, Tryz.results107, go_sem, *]) rfl ⟨?_, Or.inl ?_⟩
        · iterate 5 (refine Below.setCell ?_ (by show _ ≤ w.heap.size + 1 + 1; omega) _)
          exact D5.old
        · rw [HA.out]
          refine ⟨rfl, g, gc, by rw [hlL], ?_⟩
          have hh : ∀ j, (Value.slice (some ⟨g, 0, none⟩) (leftL l k x y nw).length gc).ownBlock = some j → j ≠ w.heap.size + 1 + 1 := fun j e => by simp [Value.ownBlock] at e; omega
          have ho := D5.own
          rw [← hlL] at ho
          iterate 5 (refine owns_set ?_ hh _ _)
          exact ⟨ho.1, ho.2.imp id fun ⟨g, cap, cur, h1, h2, h3⟩ => ⟨g, cap, cur, h1, by omega, h3⟩⟩
end Go.Proofs.YtijcdikekgmfoaaGreatDoor
