/- Joined texts: J02, PbCutD, J03, J04, J05. -/
import Derived.WalkKit
import Derived.WalkSpells
import Derived.Maps.AppendAt
import Derived.Deep.RegionHeld3
import Derived.Test.YtfmdejilhbankaaGreatRows
import Derived.Test.YtfmdejilhbankaaGreatSpanSpec
import Derived.Test.YtfmdejilhbankaaGreatData
import Derived.Test.YtfmdejilhbankaaGreatOwnMore
import Derived.Test.YtfmdejilhbankaaGreatBoxP
import Derived.Test.YtfmdejilhbankaaGreatPbTube0
import Derived.Test.YtfmdejilhbankaaGreatPbTubeI
import Derived.Test.YtfmdejilhbankaaGreatPbTubeK
import Derived.Test.YtfmdejilhbankaaGreatPbField
import Derived.Test.YtfmdejilhbankaaGreatSpanMath
import Derived.Test.YtfmdejilhbankaaGreatPbBel
import Derived.Test.YtfmdejilhbankaaGreatPbMeetD
namespace Go.Proofs.YtfmdejilhbankaaGreat
open Go.RowKit

/-- The contract of the program's FlySpans. -/
def SpansSaid : Prop := ∀ (q s fr b : Int) (a : Option Addr) (b0 o cap : Nat) (l : List Stp) (w : World), l.length ≤ 1048576 → StepsAt w a b0 o l →
    Calls Tryz.prog 63 #[.agg #[.int .i64 q, .int .i64 s, .slice a l.length cap, .int .i64 fr, .int .i64 b]] w
      fun e w' => ∃ v, e = .returned (.tuple #[v, .bool (flyB q s fr b l)]) ∧ w'.ownsRow w.heap.size 157 2 v (flyL q s fr b l).length (spanCells (flyL q s fr b l)) ∧ Below w.heap.size w w'
end Go.Proofs.YtfmdejilhbankaaGreat

namespace Go.Proofs.YtfmdejilhbankaaGreat
open Go.RowKit

theorem step_info : (Tryz.prog.info? 102).map (fun i => (i.zero, i.size, i.bytes)) = some (some (.agg #[.int .i64 0, .int .i64 0, .int .i64 0, .int .i64 0, .int .i64 0, .int .i64 0, .bool false]), 7, 56) := by kernel_rfl

theorem step_size7 : (Tryz.prog.info? 102).map (·.size) = some 7 := by kernel_rfl
theorem step_size (s : Stp) : (Tryz.prog.info? 102).map (·.size) = some (Array.size #[Value.int .i64 s.x, .int .i64 s.y, .int .i64 s.lo, .int .i64 s.hi, .int .i64 s.fr, .int .i64 s.by_, .bool s.ho]) := step_size7
/-- A step stored whole. -/
theorem store_step {ops : Array Oper} {rest : List Oper} {op : Oper} {a : Act} {w : World} {Q : Exit → Act → World → Prop} (hgd : op.guard = none) (x y : Operand) (ho : op.op = .store 102 x y)
    (b o : Nat) (s : Stp) (hx : a.eval x = .pointer (some ⟨b, o, none⟩)) (hy : a.eval y = .agg #[.int .i64 s.x, .int .i64 s.y, .int .i64 s.lo, .int .i64 s.hi, .int .i64 s.fr, .int .i64 s.by_, .bool s.ho])
    (ht : w.there b o 7) (h : wpList Tryz.prog ops Q rest (a.put op.dst undef) (w.setCells b o s.cells)) : wpList Tryz.prog ops Q (op :: rest) a w :=
  wpList_store_mid hgd 102 x y ho b o _ hx hy ht (step_size s) s.one h
end Go.Proofs.YtfmdejilhbankaaGreat

namespace Go.Proofs.YtfmdejilhbankaaGreat
open Go.RowKit

theorem grown_set (W : World) (p : Addr) (v : Value) : W.grownBy (W.setCell p v) (some p.block) :=
  ⟨rfl, rfl, rfl, by simp [World.setCell], fun k _ hk => heap_setCell_other W p k v (fun e => hk (by rw [e]))⟩

theorem grown_over2 {a b c : World} {row : Option Nat} (h : a.grownBy b row) (k : b.grownBy c row) : a.grownBy c row :=
  ⟨k.os.trans h.os, k.tape.trans h.tape, k.output.trans h.output, Nat.le_trans h.size k.size, fun i hi hne => (k.block i (Nat.lt_of_lt_of_le hi h.size) hne).trans (h.block i hi hne)⟩

/-- The marks: numbers one behind another. -/
def markV (k0 : Int) (n : Nat) : List Value := (List.range n).map fun (j : Nat) => .int .i64 (k0 + (j : Int))
theorem markV_length (k0 : Int) (n : Nat) : (markV k0 n).length = n := by simp [markV]
theorem markV_get (k0 : Int) {n i : Nat} (h : i < n) : (markV k0 n)[i]? = some (.int .i64 (k0 + (i : Int))) := by simp [markV, h]
end Go.Proofs.YtfmdejilhbankaaGreat

namespace Go.Proofs.YtfmdejilhbankaaGreat
open Go.RowKit

theorem fbox_info : (Tryz.prog.info? 132).map (fun i => (i.zero, i.size, i.bytes)) = some (some (.agg #[.int .i64 0, .int .i64 0, .int .i64 0, .int .i64 0, .int .i64 0, .int .i64 0]), 6, 48) := by kernel_rfl
theorem rowC_snocF (l : List Bx) (s : Bx) : rowC (l ++ [s]) = rowC l ++ s.cells := by rw [rowC_append, rowC_one]
theorem six_newF (w : World) (s : Bx) (t : TypeId) : ∀ (j : Nat) (u : Value), s.cells[j]? = some u → (w.alloc (.cells #[.int .i64 s.x, .int .i64 s.y, .int .i64 s.lo, .int .i64 s.hi, .int .i64 s.in_, .int .i64 s.out] t)).cell? ((⟨w.heap.size, 0, none⟩ : Addr).add j) = some u := by
  intro j u hj
  match j, hj with
  | 0, hj => simp at hj; subst hj; simp [Addr.add, go_sem]
  | 1, hj => simp at hj; subst hj; simp [Addr.add, go_sem]
  | 2, hj => simp at hj; subst hj; simp [Addr.add, go_sem]
  | 3, hj => simp at hj; subst hj; simp [Addr.add, go_sem]
  | 4, hj => simp at hj; subst hj; simp [Addr.add, go_sem]
  | 5, hj => simp at hj; subst hj; simp [Addr.add, go_sem]

/-- What lies while the tube is laid: all that lay, the spans, the boxes up to now. -/
structure TbW (w wr : World) (N : Nat) (vs : Value) (F : List (Int × Int)) (v : Value) (m : List Bx) : Prop where
  old : Below w.heap.size w wr
  lt : N ≤ wr.heap.size
  sp : wr.ownsRow w.heap.size 157 2 vs F.length (spanCells F)
  spN : ∀ k, vs.ownBlock = some k → k < N
  own : wr.ownsRow N 132 6 v m.length (rowC m)
section
variable {w wr w' : World} {N : Nat} {vs v : Value} {F : List (Int × Int)} {m : List Bx}
theorem TbW.keep (h : TbW w wr N vs F v m) (hb : Below wr.heap.size wr w') : TbW w w' N vs F v m :=
  ⟨h.old.trans (hb.mono h.old.size), Nat.le_trans h.lt hb.size, owns_below h.sp hb, h.spN, owns_below h.own hb⟩
theorem TbW.push {v7 : Value} {t : Bx} (h : TbW w wr N vs F v m) (hN : w.heap.size ≤ N) (hg : wr.grownBy w' v.ownBlock) (ho : w'.ownsRow N 132 6 v7 (m.length + 1) (rowC m ++ t.cells)) : TbW w w' N vs F v7 (m ++ [t]) := by
  have hbase := owns_base h.own
  refine ⟨h.old.grown hg h.old.size (fun k e => by have := hbase k e; omega), Nat.le_trans h.lt hg.size, ?_, h.spN, ?_⟩
  · refine h.sp.kept hg ?_
    cases e : vs.ownBlock with
    | none => exact Or.inl rfl
    | some k => exact Or.inr (fun e2 => by have := h.spN k e; have := hbase k e2.symm; omega)
  · rw [rowC_snocF, List.length_append]
    exact ho
end
theorem spanCells_two' {F : List (Int × Int)} {k : Nat} (h : k < F.length) : (spanCells F)[k * 2]? = some (.int .i64 (F.getD k (0, 0)).1) ∧ (spanCells F)[k * 2 + 1]? = some (.int .i64 (F.getD k (0, 0)).2) :=
  spanCells_get F k _ (by rw [List.getD_eq_getElem?_getD, List.getElem?_eq_getElem h]; rfl)
theorem flyL_len {q s fr b : Int} {l : List Stp} (h : flyB q s fr b l = true) : (flyL q s fr b l).length = l.length + 1 := by
  unfold flyB at h
  obtain ⟨h1, h2⟩ := Bool.and_eq_true_iff.1 h
  unfold flyL spansL
  rw [if_pos h1, if_pos h2]
  simp
theorem fly_len {q s fr b : Int} {l : List Stp} (h : flyB q s fr b l = true) : l.length ≤ 40 := by
  unfold flyB at h
  have := path_len (Bool.and_eq_true_iff.1 h).1
  omega

set_option maxRecDepth 20000 in
set_option maxHeartbeats 4000000 in
theorem flyTubeI_any (hI : SpansSaid) (q s fr b : Int) (a : Option Addr) (b0 o cap : Nat) (l : List Stp) (w : World) (hl : l.length ≤ 1048576) (hs : StepsAt w a b0 o l) :
    Calls Tryz.prog 92 #[.agg #[.int .i64 q, .int .i64 s, .slice a l.length cap, .int .i64 fr, .int .i64 b]] w
      fun e w' => ∃ v, e = .returned v ∧ w'.ownsRow w.heap.size 132 6 v (tubeL q s fr b l).length (rowC (tubeL q s fr b l)) ∧ Below w.heap.size w w' := by
  obtain ⟨i0, hi, hz0, hz1, hz2⟩ := info_parts fbox_info
  have hr := fly_range q s fr b l
  have P0 := BoxP.new w q s fr b (.slice a l.length cap) 43
  go_enter Tryz.func92, Tryz.ntmps92
  go_wp2_with fail
  refine (hI _ _ _ _ _ b0 o _ _ _ hl (hs.below ((Below.refl _ _).alloc (Nat.le_refl _) _) hs.lt)).mono ?_
  rintro e w1 ⟨vs, rfl, hsp, hb1⟩
  have P1 := P0.below hb1
  have B1 : Below w.heap.size w w1 := ((Below.refl _ _).alloc (Nat.le_refl _) _).trans (hb1.mono (by simp))
  cases hf : flyB q s fr b l with
  | false =>
    have G : Hid (tubeL q s fr b l = []) := by show _ = _; unfold tubeL; rw [hf]; rfl
    go_wp2
    go_ret
    exact ⟨_, rfl, by rw [G.out]; exact World.ownsRow_nil _ _ _ _, B1⟩
  | true =>
    have G : Hid (tubeL q s fr b l = tubeTo (flyL q s fr b l) l l.length) := by show _ = _; unfold tubeL; rw [hf]; rfl
    have hF := flyL_len hf
    have h40 := fly_len hf
    obtain ⟨g, gc, rfl, hg1, hg2⟩ := owns_some hsp (by omega)
    rw [hF]
    generalize flyL q s fr b l = F at *
    have T1 : TbW w w1 w1.heap.size (.slice (some ⟨g, 0, none⟩) F.length gc) F (.slice none 0 0) (tubeTo F l 0) := ⟨B1, Nat.le_refl _, ⟨hsp.1, hsp.2.imp id fun ⟨g, cap, cur, h1, h2, h3⟩ => ⟨g, cap, cur, h1, Nat.le_trans (by simp) h2, h3⟩⟩, owns_lt hsp, World.ownsRow_nil _ _ _ _⟩
    have p2 := P1.p2
    go_wp2
    have hN : w.heap.size ≤ w1.heap.size := B1.size
    clear P0 P1 p2 hb1 B1 hsp
    generalize w1.heap.size = N at *
    go_loopw [5, 19] (fun v x wr => ∃ k : Nat, k ≤ l.length ∧ x = .int .i64 k ∧ TbW w wr N (.slice (some ⟨g, 0, none⟩) F.length gc) F v (tubeTo F l k)) (fun _ x _ => l.length - (intOf x).toNat)
    case atStart => exact ⟨0, Nat.zero_le _, rfl, T1⟩
    case round =>
      clear T1
      obtain ⟨k, hk, rfl, hT⟩ := hrel
      by_cases hlt : k < l.length
      · obtain ⟨t, ht⟩ : ∃ t, l[k]? = some t := ⟨l[k], List.getElem?_eq_getElem hlt⟩
        have hne : l ≠ [] := by intro e; subst e; simp at hlt
        obtain rfl := hs.here hne
        obtain ⟨c0, c1, c2, c3, c4, c5, c6⟩ := (hs.below hT.old hs.lt).seven ht
        have s0 := (hT.sp.cellAt (k * 2) (by omega)).trans (spanCells_two' (F := F) (k := k) (by omega)).1
        have s1 := (hT.sp.cellAt ((k + 1) * 2 + 1) (by omega)).trans (spanCells_two' (F := F) (k := k + 1) (by omega)).2
        have hgr := owns_lt hT.sp g rfl
        have k0 : (0 : Int) ≤ (k : Int) := by omega
        have k1 : (k : Int) < (l.length : Int) := by omega
        have k2 : (k : Int) + 1 < (l.length : Int) + 1 := by omega
        have k3 : (0 : Int) ≤ (k : Int) + 1 := by omega
        have k4 : (k : Int) < (l.length : Int) + 1 := by omega
        obtain ⟨hh1, hh2⟩ := hr (k + 1)
        have HB : Hid (tubeTo F l (k + 1) = tubeTo F l k ++ [⟨t.x, t.y, t.lo, t.hi, (F.getD k (0, 0)).1, (F.getD (k + 1) (0, 0)).2 - 1⟩]) := by
          show _ = _
          rw [tubeTo_succ]
          unfold tubeAt
          rw [List.getD_eq_getElem?_getD (l := l), ht]
          rfl
        have hlen := tubeTo_length F l k
        clear ht
        generalize hi1 : (F.getD k (0, 0)).1 = in1 at *
        generalize ho1 : (F.getD (k + 1) (0, 0)).2 = out1 at *
        clear hi1 ho1
        have wr1 : IntKind.i64.wrap (out1 - 1) = out1 - 1 := by rw [IntKind.wrap_i64]; omega
        go_wp2
        have T3 := ((hT.keep ((Below.refl wr.heap.size wr).alloc (Nat.le_refl _) (.cells #[.int .i64 t.x, .int .i64 t.y, .int .i64 t.lo, .int .i64 t.hi, .int .i64 t.fr, .int .i64 t.by_, .bool t.ho] 102))).keep ((Below.refl _ _).alloc (Nat.le_refl _) (.cells #[.int .i64 t.x, .int .i64 t.y, .int .i64 t.lo, .int .i64 t.hi, .int .i64 in1, .int .i64 (out1 - 1)] 132))).keep ((Below.refl _ _).drew)
        have hnw : ∀ (j : Nat) (u : Value), (Bx.cells ⟨t.x, t.y, t.lo, t.hi, in1, out1 - 1⟩)[j]? = some u → (((wr.alloc (.cells #[.int .i64 t.x, .int .i64 t.y, .int .i64 t.lo, .int .i64 t.hi, .int .i64 t.fr, .int .i64 t.by_, .bool t.ho] 102)).alloc (.cells #[.int .i64 t.x, .int .i64 t.y, .int .i64 t.lo, .int .i64 t.hi, .int .i64 in1, .int .i64 (out1 - 1)] 132)).drew).cell? ((⟨wr.heap.size + 1, 0, none⟩ : Addr).add j) = some u := by
          intro j u hj
          have := six_newF (wr.alloc (.cells #[.int .i64 t.x, .int .i64 t.y, .int .i64 t.lo, .int .i64 t.hi, .int .i64 t.fr, .int .i64 t.by_, .bool t.ho] 102)) ⟨t.x, t.y, t.lo, t.hi, in1, out1 - 1⟩ 132 j u hj
          rw [World.size_alloc] at this
          exact this
        have hvb := owns_lt hT.own
        have hNw := hT.lt
        go_region_held3 (fun w' => w'.cell? ⟨wr.heap.size, 0, none⟩ = some (.int .i64 t.x) ∧ w'.cell? ⟨wr.heap.size, 1, none⟩ = some (.int .i64 t.y) ∧ w'.cell? ⟨wr.heap.size, 2, none⟩ = some (.int .i64 t.lo) ∧ w'.cell? ⟨wr.heap.size, 3, none⟩ = some (.int .i64 t.hi) ∧ w'.cell? ⟨g, k * 2, none⟩ = some (.int .i64 in1))
          (simp [go_sem, World.cell?_alloc_lt, *])
          (first
            | (refine wp_append_own _ (.tmp 31) (.tmp 47) 129 rfl N 132 i0 (.agg #[.int .i64 0, .int .i64 0, .int .i64 0, .int .i64 0, .int .i64 0, .int .i64 0]) 6 48 Tryz.underlying129 hi hz0 hz1 hz2 rfl (by decide) u5 _ _ rfl T3.own ⟨wr.heap.size + 1, 0, none⟩ 1 1 (Bx.cells ⟨t.x, t.y, t.lo, t.hi, in1, out1 - 1⟩) rfl rfl hnw (by simp [Value.oneCell']) (by unfold maxLen; omega) (by omega) (by simp; omega) ?_; intro v7 w7 hown7 hgrow7 hnil7; have e0 : ∀ j, w7.cell? ⟨wr.heap.size, j, none⟩ = _ := (fun j => World.cell?_of_block (a := ⟨wr.heap.size, j, none⟩) (hgrow7.block wr.heap.size (by simp; omega) (fun e => by have := hvb _ e.symm; omega))); have e1 : ∀ j, w7.cell? ⟨g, j, none⟩ = _ := (fun j => World.cell?_of_block (a := ⟨g, j, none⟩) (hgrow7.block g (by simp; omega) (fun e => by have := hT.spN g rfl; have := owns_base hT.own _ e.symm; omega)))))
        go_wp2
        go_roundw
        case rel => exact ⟨k + 1, by omega, by go_num, by rw [HB.out]; exact T3.push hN hgrow7 hown7⟩
        case measure => simp [intOf]; omega
      · obtain rfl : k = l.length := by omega
        go_wp2
        go_ret
        obtain ⟨av, cv, rfl⟩ : ∃ a c, u5 = .slice a (tubeTo F l l.length).length c := by
          rcases hT.own.2 with ⟨rfl, h0⟩ | ⟨g, cap, cur, rfl, _⟩
          · exact ⟨none, 0, by rw [h0]⟩
          · exact ⟨_, _, rfl⟩
        refine ⟨_, rfl, ?_, hT.old⟩
        rw [G.out]
        exact ⟨hT.own.1, hT.own.2.imp id fun ⟨g, cap, cur, h1, h2, h3⟩ => ⟨g, cap, cur, h1, Nat.le_trans hN h2, h3⟩⟩
end Go.Proofs.YtfmdejilhbankaaGreat

namespace Go.Proofs.YtfmdejilhbankaaGreat
open Go.RowKit

/-- What is left of boxes from a tick on. -/
def cutL (n : Int) (l : List Bx) : List Bx := (l.filter fun s => decide (n ≤ s.out)).map fun s => { s with in_ := max s.in_ n }
theorem cutL_nil (n : Int) : cutL n [] = [] := rfl
theorem cutL_take {n : Int} {l : List Bx} {k : Nat} {s : Bx} (h : l[k]? = some s) : cutL n (l.take (k + 1)) = if n ≤ s.out then cutL n (l.take k) ++ [{ s with in_ := max s.in_ n }] else cutL n (l.take k) := by
  unfold cutL
  rw [List.take_add_one, h]
  by_cases hh : n ≤ s.out <;> simp [List.filter_append, hh]
theorem cutL_len (n : Int) (l : List Bx) : (cutL n l).length ≤ l.length := by
  unfold cutL; rw [List.length_map]; exact List.length_filter_le _ _
theorem cutL_len_take (n : Int) (l : List Bx) (k : Nat) : (cutL n (l.take k)).length ≤ l.length :=
  Nat.le_trans (cutL_len n _) (by rw [List.length_take]; omega)
theorem rowC_snoc (l : List Bx) (s : Bx) : rowC (l ++ [s]) = rowC l ++ s.cells := by rw [rowC_append, rowC_one]

/-- A row of boxes that a call owns, as a law reads and marks it. -/
structure RowB (w : World) (base : Nat) (a : Option Addr) (g : Nat) (m : List Bx) : Prop where
  at_ : BoxesAt w a g 0 m
  base : m ≠ [] → base ≤ g
  there : ∀ i, i < m.length → w.there g (i * 6) 6
theorem owns_rowB {w : World} {base : Nat} {e : TypeId} {v : Value} {m : List Bx} (h : w.ownsRow base e 6 v m.length (rowC m)) : ∃ a g cap, v = .slice a m.length cap ∧ RowB w base a g m := by
  rcases h.2 with ⟨rfl, h0⟩ | ⟨g, cap, cur, rfl, hg, hh, hn, hc, hs, ht⟩
  · have : m = [] := List.length_eq_zero_iff.1 h0
    subst this
    exact ⟨none, 0, 0, rfl, ⟨⟨fun h => absurd rfl h, fun h => absurd rfl h, fun i s hi => by simp at hi⟩, fun h => absurd rfl h, fun i hi => by simp at hi⟩⟩
  · refine ⟨some ⟨g, 0, none⟩, g, cap, rfl, ⟨⟨fun _ => rfl, fun _ => lt_of_block hh, fun i s hi j u hu => ?_⟩, fun _ => hg, fun i hi => there_of_block hh _ _ ?_⟩⟩
    · have h1 := rowC_get m i s hi j u hu
      rw [← ht] at h1
      rw [Nat.zero_add, cell_of_row w g (i * 6 + j) cur _ _ hh]
      rw [List.getElem?_take] at h1
      split at h1
      · simpa using h1
      · cases h1
    · have hl := h.1
      rw [← ht, List.length_take] at hl
      simp at hl
      omega
theorem RowB.keep {w w' : World} {base : Nat} {a : Option Addr} {g : Nat} {m : List Bx} (h : RowB w base a g m) (hb : Below w.heap.size w w') : RowB w' base a g m where
  at_ := h.at_.below hb h.at_.lt
  base := h.base
  there i hi := there_below (h.there i hi) hb (h.at_.lt (by intro e; subst e; simp at hi))

theorem BoxesAt.grown {w w' : World} {a : Option Addr} {b o : Nat} {l : List Bx} (h : BoxesAt w a b o l) {row : Option Nat} (hg : w.grownBy w' row) (hb : l ≠ [] → some b ≠ row) : BoxesAt w' a b o l where
  here := h.here
  lt hl := Nat.lt_of_lt_of_le (h.lt hl) hg.size
  cell i s hi j u hu := by
    have hne : l ≠ [] := by intro e; subst e; simp at hi
    rw [World.cell?_of_block (a := ⟨b, o + i * 6 + j, none⟩) (hg.block b (h.lt hne) (hb hne))]
    exact h.cell i s hi j u hu
theorem RowB.grown {w w' : World} {base : Nat} {a : Option Addr} {b : Nat} {m : List Bx} (h : RowB w base a b m) {row : Option Nat} (hg : w.grownBy w' row) (hb : m ≠ [] → some b ≠ row) : RowB w' base a b m where
  at_ := h.at_.grown hg hb
  base := h.base
  there i hi j hj := by
    have hne : m ≠ [] := by intro e; subst e; simp at hi
    have hbl := hg.block b (h.at_.lt hne) (hb hne)
    have h1 := h.there i hi j hj
    rw [World.cell?_of_block (a := ⟨b, i * 6 + j, none⟩) hbl, World.frozen?_of_block (a := ⟨b, i * 6 + j, none⟩) hbl]
    exact h1

/-- The block of a row, if it has one. -/
def rowOf {α : Type} (m : List α) (g : Nat) : Option Nat := if m.length = 0 then none else some g
theorem rowOf_pos {α : Type} {m : List α} {g : Nat} (h : 0 < m.length) : rowOf m g = some g := by unfold rowOf; rw [if_neg (by omega)]
theorem rowOf_ne {α : Type} {m : List α} {g B : Nat} (h : m ≠ [] → B ≠ g) : some B ≠ rowOf m g := by
  unfold rowOf
  split
  · simp
  · rename_i hn
    intro e
    exact h (by intro e2; subst e2; simp at hn) (Option.some.inj e)
/-- Six marks. -/
abbrev marks (k0 : Int) (m : Nat) : List Value := [.int .i64 (k0 + (m * 6 : Nat)), .int .i64 (k0 + (m * 6 : Nat) + 1), .int .i64 (k0 + (m * 6 : Nat) + 1 + 1), .int .i64 (k0 + (m * 6 : Nat) + 1 + 1 + 1), .int .i64 (k0 + (m * 6 : Nat) + 1 + 1 + 1 + 1), .int .i64 (k0 + (m * 6 : Nat) + 1 + 1 + 1 + 1 + 1)]

theorem six_newP (w : World) (s : Bx) (t : TypeId) : ∀ (j : Nat) (u : Value), s.cells[j]? = some u → (w.alloc (.cells #[.int .i64 s.x, .int .i64 s.y, .int .i64 s.lo, .int .i64 s.hi, .int .i64 s.in_, .int .i64 s.out] t)).cell? ((⟨w.heap.size, 0, none⟩ : Addr).add j) = some u := by
  intro j u hj
  match j, hj with
  | 0, hj => simp at hj; subst hj; simp [Addr.add, go_sem]
  | 1, hj => simp at hj; subst hj; simp [Addr.add, go_sem]
  | 2, hj => simp at hj; subst hj; simp [Addr.add, go_sem]
  | 3, hj => simp at hj; subst hj; simp [Addr.add, go_sem]
  | 4, hj => simp at hj; subst hj; simp [Addr.add, go_sem]
  | 5, hj => simp at hj; subst hj; simp [Addr.add, go_sem]
theorem six_new2P (w : World) (s : Bx) (o : Obj) (t : TypeId) : ∀ (j : Nat) (u : Value), s.cells[j]? = some u → ((w.alloc o).alloc (.cells #[.int .i64 s.x, .int .i64 s.y, .int .i64 s.lo, .int .i64 s.hi, .int .i64 s.in_, .int .i64 s.out] t)).cell? ((⟨w.heap.size + 1, 0, none⟩ : Addr).add j) = some u := by
  intro j u hj
  have := six_newP (w.alloc o) s t j u hj
  rwa [World.size_alloc] at this
end Go.Proofs.YtfmdejilhbankaaGreat

namespace Go.Proofs.YtfmdejilhbankaaGreat
open Go.RowKit

theorem pbox_info : (Tryz.prog.info? 133).map (fun i => (i.zero, i.size, i.bytes)) = some (some (.agg #[.int .i64 0, .int .i64 0, .int .i64 0, .int .i64 0, .int .i64 0, .int .i64 0]), 6, 48) := by kernel_rfl
end Go.Proofs.YtfmdejilhbankaaGreat

namespace Go.Proofs.YtfmdejilhbankaaGreat
open Go.RowKit

theorem old_allocC {W : World} {B : Nat} (hB : B < W.heap.size) : ∀ (ob : Obj) (j : Nat), (W.alloc ob).cell? ⟨B, j, none⟩ = W.cell? ⟨B, j, none⟩ := fun ob j => (bel1 ob).cell (p := ⟨B, j, none⟩) hB

/-- What ProbeCut answers. -/
def cutNm (t : Tb) : ByteArray := if tubeB t then t.nm else ⟨#[]⟩
def cutBx (t : Tb) (n : Int) : List Bx := if tubeB t then cutL n t.l else []
theorem cutBx_len (t : Tb) (n : Int) : (cutBx t n).length ≤ t.l.length := by
  unfold cutBx; split
  · exact cutL_len n _
  · simp

/-- The blocks of the call: the tube, the answer, what has been laid up to now. -/
structure CutW (w wr : World) (t : Tb) (v : Value) (m : List Bx) : Prop where
  old : Below w.heap.size w wr
  tube : wr.heap[w.heap.size]? = some (.cells #[.string t.nm, .slice t.a t.l.length t.cap] 96 (0, 0))
  res : wr.heap[w.heap.size + 1]? = some (.cells #[.string ⟨#[]⟩, .slice none 0 0] 96 (0, 0))
  out : wr.heap[w.heap.size + 1 + 1]? = some (.cells #[.string t.nm, v] 96 (0, 0))
  own : wr.ownsRow (w.heap.size + 1 + 1 + 1) 133 6 v m.length (rowC m)
theorem CutW.lt {w wr : World} {t : Tb} {v : Value} {m : List Bx} (h : CutW w wr t v m) : w.heap.size + 1 + 1 < wr.heap.size := lt_of_block h.out
theorem CutW.keep {w wr w2 : World} {t : Tb} {v : Value} {m : List Bx} (h : CutW w wr t v m) (hb : Below wr.heap.size wr w2) : CutW w w2 t v m :=
  ⟨h.old.trans (hb.mono h.old.size), (hb.block _ (lt_of_block h.tube)).trans h.tube, (hb.block _ (lt_of_block h.res)).trans h.res, (hb.block _ (lt_of_block h.out)).trans h.out, owns_below h.own hb⟩
theorem CutW.push {w W w' : World} {t : Tb} {v v' : Value} {m : List Bx} {s : Bx} (h : CutW w W t v m) (ho : w'.ownsRow (w.heap.size + 1 + 1 + 1) 133 6 v' (m.length + 1) (rowC m ++ s.cells)) (hg : W.grownBy w' v.ownBlock) :
    CutW w (w'.setCell ⟨w.heap.size + 1 + 1, 1, none⟩ v') t v' (m ++ [s]) := by
  have hbase := owns_base h.own
  have ne : ∀ k, k < w.heap.size + 1 + 1 + 1 → some k ≠ v.ownBlock := fun k hk e => by have := hbase k e.symm; omega
  have z := h.lt
  have h1 : w'.heap[w.heap.size + 1 + 1]? = some (.cells #[.string t.nm, v] 96 (0, 0)) := (hg.block _ z (ne _ (by omega))).trans h.out
  refine ⟨?_, ?_, ?_, ?_, ?_⟩
  · exact (h.old.grown hg h.old.size (fun k e => by have := hbase k e; omega)).setCell (by show _ ≤ w.heap.size + 1 + 1; omega) _
  · rw [heap_setCell_other _ _ _ _ (by show w.heap.size ≠ w.heap.size + 1 + 1; omega)]
    exact (hg.block _ (by omega) (ne _ (by omega))).trans h.tube
  · rw [heap_setCell_other _ _ _ _ (by show w.heap.size + 1 ≠ w.heap.size + 1 + 1; omega)]
    exact (hg.block _ (by omega) (ne _ (by omega))).trans h.res
  · exact blk2_set1 h1 v'
  · rw [rowC_snoc, List.length_append]
    exact owns_set ho (fun k e => by have := owns_base ho k e; omega) _ _
theorem CutW.new (w w1 : World) (t : Tb) (hb : Below (((w.alloc (.cells #[.string t.nm, .slice t.a t.l.length t.cap] 96)).alloc (.cells #[.string ⟨#[]⟩, .slice none 0 0] 96)).alloc (.cells #[.string t.nm, .slice none 0 0] 96)).heap.size (((w.alloc (.cells #[.string t.nm, .slice t.a t.l.length t.cap] 96)).alloc (.cells #[.string ⟨#[]⟩, .slice none 0 0] 96)).alloc (.cells #[.string t.nm, .slice none 0 0] 96)) w1) :
    CutW w w1 t (.slice none 0 0) [] where
  old := (bel3 _ _ _).trans (hb.mono (by simp; omega))
  tube := (hb.block _ (by simp; omega)).trans ((Below.heap_alloc _ _ _ (by simp <;> omega)).trans ((Below.heap_alloc _ _ _ (by simp)).trans (heap_alloc_new w _)))
  res := (hb.block _ (by simp <;> omega)).trans ((Below.heap_alloc _ _ _ (by simp)).trans (by have := heap_alloc_new (w.alloc (.cells #[.string t.nm, .slice t.a t.l.length t.cap] 96)) (.cells #[.string ⟨#[]⟩, .slice none 0 0] 96); rwa [World.size_alloc] at this))
  out := (hb.block _ (by simp)).trans (by have := heap_alloc_new ((w.alloc (.cells #[.string t.nm, .slice t.a t.l.length t.cap] 96)).alloc (.cells #[.string ⟨#[]⟩, .slice none 0 0] 96)) (.cells #[.string t.nm, .slice none 0 0] 96); rwa [World.size_alloc, World.size_alloc] at this)
  own := World.ownsRow_nil _ _ _ _

theorem CutW.grow {w W w' : World} {t : Tb} {v : Value} {m : List Bx} (h : CutW w W t v m) (hg : W.grownBy w' v.ownBlock) : w'.heap[w.heap.size + 1 + 1]? = some (.cells #[.string t.nm, v] 96 (0, 0)) :=
  (hg.block _ h.lt (fun e => by have := owns_base h.own _ e.symm; omega)).trans h.out
theorem owns_slice {w : World} {base e size n : Nat} {v : Value} {xs : List Value} (h : w.ownsRow base e size v n xs) : ∃ a c, v = .slice a n c := by
  rcases h.2 with ⟨rfl, rfl⟩ | ⟨g, cap, cur, rfl, _⟩
  · exact ⟨none, 0, rfl⟩
  · exact ⟨_, _, rfl⟩
theorem owns_lower {w : World} {base base' e size n : Nat} {v : Value} {xs : List Value} (h : w.ownsRow base e size v n xs) (hb : base' ≤ base) : w.ownsRow base' e size v n xs :=
  ⟨h.1, h.2.imp id fun ⟨g, cap, cur, h1, h2, h3⟩ => ⟨g, cap, cur, h1, Nat.le_trans hb h2, h3⟩⟩

set_option maxHeartbeats 4000000 in
set_option maxRecDepth 20000 in
theorem cutS_any (nm : ByteArray) (a : Option Addr) (b o cap : Nat) (l : List Bx) (n : Int) (w : World) (hl : l.length ≤ 1048576) (hs : BoxesAt w a b o l) :
    Calls Tryz.prog 94 #[.agg #[.string nm, .slice a l.length cap], .int .i64 n] w
      fun e w' => ∃ v, e = .returned (.agg #[.string (cutNm ⟨nm, a, b, o, cap, l⟩), v]) ∧ w'.ownsRow w.heap.size 133 6 v (cutBx ⟨nm, a, b, o, cap, l⟩ n).length (rowC (cutBx ⟨nm, a, b, o, cap, l⟩ n)) ∧ Below w.heap.size w w' := by
  obtain ⟨i0, hi, hz0, hz1, hz2⟩ := info_parts pbox_info
  have A0 : TubeAt w ⟨nm, a, b, o, cap, l⟩ := ⟨hs⟩
  cases h1 : tubeB ⟨nm, a, b, o, cap, l⟩ with
  | false =>
    have G : Hid (cutNm ⟨nm, a, b, o, cap, l⟩ = ⟨#[]⟩ ∧ cutBx ⟨nm, a, b, o, cap, l⟩ n = []) := by show _ ∧ _; unfold cutNm cutBx; rw [h1]; simp
    have H1 : Hid (tubeB ⟨nm, a, b, o, cap, l⟩ = false) := h1
    clear h1
    go_enter Tryz.func94, Tryz.ntmps94
    go_wp2_with fail
    refine (tubeOkS_val ⟨nm, a, b, o, cap, l⟩ false _ hl (A0.below (bel3 _ _ _)) H1.out).mono ?_
    rintro e w1 ⟨rfl, hb1⟩
    have C := CutW.new w w1 ⟨nm, a, b, o, cap, l⟩ hb1
    obtain ⟨r0, r1, rf⟩ := blk2 C.res
    clear hb1
    go_wp2
    refine bodyPost_ret (v := .agg #[.string ⟨#[]⟩, .slice none 0 0]) (by simp [results, Tryz.results94, go_sem, *]) rfl ⟨.slice none 0 0, by rw [G.out.1], by rw [G.out.2]; exact World.ownsRow_nil _ _ _ _, ?_⟩
    iterate 2 (refine Below.setCell ?_ (by simp) _)
    exact C.old
  | true =>
    have G : Hid (cutNm ⟨nm, a, b, o, cap, l⟩ = nm ∧ cutBx ⟨nm, a, b, o, cap, l⟩ n = cutL n l) := by show _ ∧ _; unfold cutNm cutBx; rw [h1]; simp
    have H1 : Hid (tubeB ⟨nm, a, b, o, cap, l⟩ = true) := h1
    clear h1
    go_enter Tryz.func94, Tryz.ntmps94
    go_wp2_with fail
    refine (tubeOkS_val ⟨nm, a, b, o, cap, l⟩ true _ hl (A0.below (bel3 _ _ _)) H1.out).mono ?_
    rintro e w1 ⟨rfl, hb1⟩
    have C0 := CutW.new w w1 ⟨nm, a, b, o, cap, l⟩ hb1
    clear hb1 A0
    go_wp2
    go_loopw [6] (fun x wr => ∃ (k : Nat) (v : Value), k ≤ l.length ∧ x = .int .i64 k ∧ CutW w wr ⟨nm, a, b, o, cap, l⟩ v (cutL n (l.take k))) (fun x _ => l.length - (intOf x).toNat)
    case atStart => exact ⟨0, _, Nat.zero_le _, rfl, C0⟩
    case round =>
      clear C0
      obtain ⟨k, v, hk, rfl, hC⟩ := hrel
      obtain ⟨t0, t1, tf⟩ := blk2 hC.tube
      by_cases hlt : k < l.length
      · obtain ⟨s, hsk⟩ : ∃ s, l[k]? = some s := ⟨l[k], List.getElem?_eq_getElem hlt⟩
        have hne : l ≠ [] := by intro e; subst e; simp at hlt
        obtain rfl := hs.here hne
        have hbw := hs.lt hne
        obtain ⟨c0, c1, c2, c3, c4, c5⟩ := (hs.below hC.old (fun _ => hbw)).six hsk
        have k0 : (0 : Int) ≤ (k : Int) := by omega
        have k1 : (k : Int) < (l.length : Int) := by omega
        have HS : Hid (l[k]? = some s) := hsk
        have zC := hC.lt
        have hlen := cutL_len_take n l k
        clear hsk
        by_cases h2 : s.out < n
        · have HT : Hid (cutL n (l.take (k + 1)) = cutL n (l.take k)) := by show _ = _; rw [cutL_take HS.out, if_neg (by omega)]
          go_wp2
          go_roundw
          case rel => exact ⟨k + 1, v, by omega, by go_num, by rw [HT.out]; exact hC.keep (bel1 _)⟩
          case measure => simp [intOf]; omega
        · by_cases h3 : s.in_ < n
          · have HT : Hid (cutL n (l.take (k + 1)) = cutL n (l.take k) ++ [{ s with in_ := n }]) := by show _ = _; rw [cutL_take HS.out, if_pos (by omega), show max s.in_ n = n by omega]
            have C1 := hC.keep (bel1 (.cells #[.int .i64 s.x, .int .i64 s.y, .int .i64 s.lo, .int .i64 s.hi, .int .i64 n, .int .i64 s.out] 133))
            obtain ⟨u0, u1, uf⟩ := blk2 C1.out
            have na := old_allocC zC
            have C2 := C1.keep (bel1 (.cells #[.int .i64 s.x, .int .i64 s.y, .int .i64 s.lo, .int .i64 s.hi, .int .i64 n, .int .i64 s.out] 133))
            go_wp2_with (at_builtin; refine wpList_append_own _ rfl (.tmp 38) (.tmp 40) 94 rfl (w.heap.size + 1 + 1 + 1) 133 i0 (.agg #[.int .i64 0, .int .i64 0, .int .i64 0, .int .i64 0, .int .i64 0, .int .i64 0]) 6 48 Tryz.underlying94 hi hz0 hz1 hz2 rfl (by decide) v _ _ rfl C2.own ⟨wr.heap.size + 1, 0, none⟩ 1 1 (Bx.cells { s with in_ := n }) rfl rfl (six_new2P wr { s with in_ := n } _ _) (by simp [Value.oneCell']) (by unfold maxLen; omega) (by omega) (by simp; omega) ?_; intro v7 w7 hown7 hgrow7 hnil7; obtain ⟨p0, p1, pf⟩ := blk2 (C2.grow hgrow7); obtain ⟨a7, c7, rfl⟩ := owns_slice hown7)
            go_roundw
            case rel => exact ⟨k + 1, _, by omega, by go_num, by rw [HT.out]; exact C2.push hown7 hgrow7⟩
            case measure => simp [intOf]; omega
          · have HT : Hid (cutL n (l.take (k + 1)) = cutL n (l.take k) ++ [s]) := by show _ = _; rw [cutL_take HS.out, if_pos (by omega), show max s.in_ n = s.in_ by omega]
            have C1 := hC.keep (bel1 (.cells #[.int .i64 s.x, .int .i64 s.y, .int .i64 s.lo, .int .i64 s.hi, .int .i64 s.in_, .int .i64 s.out] 133))
            obtain ⟨u0, u1, uf⟩ := blk2 C1.out
            have na := old_allocC zC
            have C2 := C1.keep (bel1 (.cells #[.int .i64 s.x, .int .i64 s.y, .int .i64 s.lo, .int .i64 s.hi, .int .i64 s.in_, .int .i64 s.out] 133))
            go_wp2_with (at_builtin; refine wpList_append_own _ rfl (.tmp 38) (.tmp 40) 94 rfl (w.heap.size + 1 + 1 + 1) 133 i0 (.agg #[.int .i64 0, .int .i64 0, .int .i64 0, .int .i64 0, .int .i64 0, .int .i64 0]) 6 48 Tryz.underlying94 hi hz0 hz1 hz2 rfl (by decide) v _ _ rfl C2.own ⟨wr.heap.size + 1, 0, none⟩ 1 1 (Bx.cells s) rfl rfl (six_new2P wr s _ _) (by simp [Value.oneCell']) (by unfold maxLen; omega) (by omega) (by simp; omega) ?_; intro v7 w7 hown7 hgrow7 hnil7; obtain ⟨p0, p1, pf⟩ := blk2 (C2.grow hgrow7); obtain ⟨a7, c7, rfl⟩ := owns_slice hown7)
            go_roundw
            case rel => exact ⟨k + 1, _, by omega, by go_num, by rw [HT.out]; exact C2.push hown7 hgrow7⟩
            case measure => simp [intOf]; omega
      · obtain rfl : k = l.length := by omega
        rw [List.take_length] at hC
        obtain ⟨va, vc, rfl⟩ := owns_slice hC.own
        obtain ⟨u0, u1, uf⟩ := blk2 hC.out
        obtain ⟨r0, r1, rf⟩ := blk2 hC.res
        go_wp2
        refine bodyPost_ret (v := .agg #[.string nm, .slice va (cutL n l).length vc]) (by simp [results, Tryz.results94, go_sem, *]) rfl ⟨_, by rw [G.out.1], ?_, ?_⟩
        · rw [G.out.2]
          refine owns_lower (base := w.heap.size + 1 + 1 + 1) ?_ (by omega)
          iterate 2 (refine owns_set ?_ (fun k e => by have := owns_base hC.own k e; omega) _ _)
          exact hC.own
        · iterate 2 (refine Below.setCell ?_ (by simp) _)
          exact hC.old
end Go.Proofs.YtfmdejilhbankaaGreat

namespace Go.Proofs.YtfmdejilhbankaaGreat
open Go.RowKit

set_option maxHeartbeats 4000000 in
set_option maxRecDepth 20000 in
theorem from_any (a : Option Addr) (b o cap : Nat) (l : List Bx) (n : Int) (w : World) (hl : l.length ≤ 1048576) (hs : BoxesAt w a b o l) :
    Calls Tryz.prog 127 #[.slice a l.length cap, .int .i64 n] w
      fun e w' => ∃ v, e = .returned v ∧ w'.ownsRow w.heap.size 133 6 v (cutL n l).length (rowC (cutL n l)) ∧ Below w.heap.size w w' := by
  obtain ⟨i0, hi, hz0, hz1, hz2⟩ := info_parts pbox_info
  go_enter Tryz.func127, Tryz.ntmps127
  go_wp2
  go_loopw [5, 10] (fun v x wr => ∃ k : Nat, k ≤ l.length ∧ x = .int .i64 k ∧ Below w.heap.size w wr ∧ wr.ownsRow w.heap.size 133 6 v (cutL n (l.take k)).length (rowC (cutL n (l.take k)))) (fun _ x _ => l.length - (intOf x).toNat)
  case atStart => exact ⟨0, Nat.zero_le _, rfl, Below.refl _ _, World.ownsRow_nil _ _ _ _⟩
  case round =>
    obtain ⟨k, hk, rfl, hb, ho⟩ := hrel
    by_cases hlt : k < l.length
    · obtain ⟨s, hsk⟩ : ∃ s, l[k]? = some s := ⟨l[k], List.getElem?_eq_getElem hlt⟩
      have hne : l ≠ [] := by intro e; subst e; simp at hlt
      obtain rfl := hs.here hne
      have hbw := hs.lt hne
      obtain ⟨c0, c1, c2, c3, c4, c5⟩ := (hs.below hb (fun _ => hbw)).six hsk
      have k0 : (0 : Int) ≤ (k : Int) := by omega
      have k1 : (k : Int) < (l.length : Int) := by omega
      have HS : Hid (l[k]? = some s) := hsk
      have hlen := cutL_len_take n l k
      clear hsk
      by_cases h2 : n ≤ s.out
      · by_cases h3 : s.in_ < n
        · have HT : Hid (cutL n (l.take (k + 1)) = cutL n (l.take k) ++ [{ s with in_ := n }]) := by show _ = _; rw [cutL_take HS.out, if_pos (by omega), show max s.in_ n = n by omega]
          have O1 := owns_below ho (bel2 (.cells #[.int .i64 s.x, .int .i64 s.y, .int .i64 s.lo, .int .i64 s.hi, .int .i64 n, .int .i64 s.out] 133) (.cells #[.int .i64 s.x, .int .i64 s.y, .int .i64 s.lo, .int .i64 s.hi, .int .i64 n, .int .i64 s.out] 133))
          have B1 := (hb.alloc hb.size (.cells #[.int .i64 s.x, .int .i64 s.y, .int .i64 s.lo, .int .i64 s.hi, .int .i64 n, .int .i64 s.out] 133)).alloc (by simp; have := hb.size; omega) (.cells #[.int .i64 s.x, .int .i64 s.y, .int .i64 s.lo, .int .i64 s.hi, .int .i64 n, .int .i64 s.out] 133)
          go_wp2_with (at_builtin; refine wpList_append_own _ rfl (.tmp 23) (.tmp 25) 94 rfl w.heap.size 133 i0 (.agg #[.int .i64 0, .int .i64 0, .int .i64 0, .int .i64 0, .int .i64 0, .int .i64 0]) 6 48 Tryz.underlying94 hi hz0 hz1 hz2 rfl (by decide) u5 _ _ rfl O1 ⟨wr.heap.size + 1, 0, none⟩ 1 1 (Bx.cells { s with in_ := n }) rfl rfl (six_new2P wr { s with in_ := n } _ _) (by simp [Value.oneCell']) (by unfold maxLen; omega) (by omega) (by simp; have := hb.size; omega) ?_; intro v7 w7 hown7 hgrow7 hnil7)
          go_roundw
          case rel => exact ⟨k + 1, by omega, by go_num, B1.grown hgrow7 (by simp; have := hb.size; omega) (owns_base O1), by rw [HT.out, rowC_snoc, List.length_append]; exact hown7⟩
          case measure => simp [intOf]; omega
        · have HT : Hid (cutL n (l.take (k + 1)) = cutL n (l.take k) ++ [s]) := by show _ = _; rw [cutL_take HS.out, if_pos (by omega), show max s.in_ n = s.in_ by omega]
          have O1 := owns_below ho (bel2 (.cells #[.int .i64 s.x, .int .i64 s.y, .int .i64 s.lo, .int .i64 s.hi, .int .i64 s.in_, .int .i64 s.out] 133) (.cells #[.int .i64 s.x, .int .i64 s.y, .int .i64 s.lo, .int .i64 s.hi, .int .i64 s.in_, .int .i64 s.out] 133))
          have B1 := (hb.alloc hb.size (.cells #[.int .i64 s.x, .int .i64 s.y, .int .i64 s.lo, .int .i64 s.hi, .int .i64 s.in_, .int .i64 s.out] 133)).alloc (by simp; have := hb.size; omega) (.cells #[.int .i64 s.x, .int .i64 s.y, .int .i64 s.lo, .int .i64 s.hi, .int .i64 s.in_, .int .i64 s.out] 133)
          go_wp2_with (at_builtin; refine wpList_append_own _ rfl (.tmp 23) (.tmp 25) 94 rfl w.heap.size 133 i0 (.agg #[.int .i64 0, .int .i64 0, .int .i64 0, .int .i64 0, .int .i64 0, .int .i64 0]) 6 48 Tryz.underlying94 hi hz0 hz1 hz2 rfl (by decide) u5 _ _ rfl O1 ⟨wr.heap.size + 1, 0, none⟩ 1 1 (Bx.cells s) rfl rfl (six_new2P wr s _ _) (by simp [Value.oneCell']) (by unfold maxLen; omega) (by omega) (by simp; have := hb.size; omega) ?_; intro v7 w7 hown7 hgrow7 hnil7)
          go_roundw
          case rel => exact ⟨k + 1, by omega, by go_num, B1.grown hgrow7 (by simp; have := hb.size; omega) (owns_base O1), by rw [HT.out, rowC_snoc, List.length_append]; exact hown7⟩
          case measure => simp [intOf]; omega
      · have HT : Hid (cutL n (l.take (k + 1)) = cutL n (l.take k)) := by show _ = _; rw [cutL_take HS.out, if_neg h2]
        go_wp2
        go_roundw
        case rel => exact ⟨k + 1, by omega, by go_num, hb.alloc hb.size _, by rw [HT.out]; exact owns_below ho (bel1 _)⟩
        case measure => simp [intOf]; omega
    · obtain rfl : k = l.length := by omega
      rw [List.take_length] at ho
      go_wp2
      go_ret
      exact ⟨_, rfl, ho, hb⟩

/-- The blocks of the call: the tube, the answer. -/
structure ResW (w wr : World) (t : Tb) : Prop where
  old : Below w.heap.size w wr
  tube : wr.heap[w.heap.size]? = some (.cells #[.string t.nm, .slice t.a t.l.length t.cap] 96 (0, 0))
  res : wr.heap[w.heap.size + 1]? = some (.cells #[.string ⟨#[]⟩, .slice none 0 0] 96 (0, 0))
theorem ResW.keep {w wr w2 : World} {t : Tb} (h : ResW w wr t) (hb : Below wr.heap.size wr w2) : ResW w w2 t :=
  ⟨h.old.trans (hb.mono h.old.size), (hb.block _ (lt_of_block h.tube)).trans h.tube, (hb.block _ (lt_of_block h.res)).trans h.res⟩
theorem ResW.new (w w1 : World) (t : Tb) (hb : Below ((w.alloc (.cells #[.string t.nm, .slice t.a t.l.length t.cap] 96)).alloc (.cells #[.string ⟨#[]⟩, .slice none 0 0] 96)).heap.size ((w.alloc (.cells #[.string t.nm, .slice t.a t.l.length t.cap] 96)).alloc (.cells #[.string ⟨#[]⟩, .slice none 0 0] 96)) w1) : ResW w w1 t where
  old := (bel2 _ _).trans (hb.mono (by simp; omega))
  tube := (hb.block _ (by simp; omega)).trans ((Below.heap_alloc _ _ _ (by simp)).trans (heap_alloc_new w _))
  res := (hb.block _ (by simp)).trans (by have := heap_alloc_new (w.alloc (.cells #[.string t.nm, .slice t.a t.l.length t.cap] 96)) (.cells #[.string ⟨#[]⟩, .slice none 0 0] 96); rwa [World.size_alloc] at this)

set_option maxHeartbeats 4000000 in
set_option maxRecDepth 20000 in
theorem cutI_any (nm : ByteArray) (a : Option Addr) (b o cap : Nat) (l : List Bx) (n : Int) (w : World) (hl : l.length ≤ 1048576) (hs : BoxesAt w a b o l) :
    Calls Tryz.prog 93 #[.agg #[.string nm, .slice a l.length cap], .int .i64 n] w
      fun e w' => ∃ v, e = .returned (.agg #[.string (cutNm ⟨nm, a, b, o, cap, l⟩), v]) ∧ w'.ownsRow w.heap.size 133 6 v (cutBx ⟨nm, a, b, o, cap, l⟩ n).length (rowC (cutBx ⟨nm, a, b, o, cap, l⟩ n)) ∧ Below w.heap.size w w' := by
  have A0 : TubeAt w ⟨nm, a, b, o, cap, l⟩ := ⟨hs⟩
  cases h1 : tubeB ⟨nm, a, b, o, cap, l⟩ with
  | false =>
    have G : Hid (cutNm ⟨nm, a, b, o, cap, l⟩ = ⟨#[]⟩ ∧ cutBx ⟨nm, a, b, o, cap, l⟩ n = []) := by show _ ∧ _; unfold cutNm cutBx; rw [h1]; simp
    have H1 : Hid (tubeB ⟨nm, a, b, o, cap, l⟩ = false) := h1
    clear h1
    go_enter Tryz.func93, Tryz.ntmps93
    go_wp2_with fail
    refine (tubeOk_val ⟨nm, a, b, o, cap, l⟩ false _ hl (A0.below (bel2 _ _)) H1.out).mono ?_
    rintro e w1 ⟨rfl, hb1⟩
    have C := ResW.new w w1 ⟨nm, a, b, o, cap, l⟩ hb1
    obtain ⟨r0, r1, rf⟩ := blk2 C.res
    clear hb1
    go_wp2
    refine bodyPost_ret (v := .agg #[.string ⟨#[]⟩, .slice none 0 0]) (by simp [results, Tryz.results93, go_sem, *]) rfl ⟨.slice none 0 0, by rw [G.out.1], by rw [G.out.2]; exact World.ownsRow_nil _ _ _ _, ?_⟩
    iterate 2 (refine Below.setCell ?_ (by simp) _)
    exact C.old
  | true =>
    have G : Hid (cutNm ⟨nm, a, b, o, cap, l⟩ = nm ∧ cutBx ⟨nm, a, b, o, cap, l⟩ n = cutL n l) := by show _ ∧ _; unfold cutNm cutBx; rw [h1]; simp
    have H1 : Hid (tubeB ⟨nm, a, b, o, cap, l⟩ = true) := h1
    clear h1
    go_enter Tryz.func93, Tryz.ntmps93
    go_wp2_with fail
    refine (tubeOk_val ⟨nm, a, b, o, cap, l⟩ true _ hl (A0.below (bel2 _ _)) H1.out).mono ?_
    rintro e w1 ⟨rfl, hb1⟩
    have C1 := ResW.new w w1 ⟨nm, a, b, o, cap, l⟩ hb1
    have C1d : ResW w w1.drew ⟨nm, a, b, o, cap, l⟩ := C1.keep ((Below.refl _ _).drew)
    obtain ⟨t0, t1, tf⟩ := blk2 C1.tube
    have hfd := fun wx => lane_field nm a l.length cap wx
    clear hb1 A0
    go_wp2
    go_region_held3 (fun w' => w'.cell? ⟨w.heap.size, 0, none⟩ = some (.string nm) ∧ w'.cell? ⟨w.heap.size, 1, none⟩ = some (.slice a l.length cap))
      (simp [go_sem, *])
      (first
        | (go_at_call 104; refine (lane_at nm a cap l _).mono ?_; rintro e w2 ⟨rfl, hb2⟩; have C2 := C1d.keep hb2; obtain ⟨s0, s1, sf⟩ := blk2 C2.tube)
        | (go_at_call 127; refine (from_any _ b o _ l _ _ hl (hs.below C2.old hs.lt)).mono ?_; rintro e w3 ⟨v3, rfl, ho3, hb3⟩; have C3 := C2.keep hb3; obtain ⟨q0, q1, qf⟩ := blk2 C3.tube; obtain ⟨r0, r1, rf⟩ := blk2 C3.res; obtain ⟨va, vc, rfl⟩ := owns_slice ho3; have D3 := C2.old.size))
    go_wp2
    refine bodyPost_ret (v := .agg #[.string nm, .slice va (cutL n l).length vc]) (by simp [results, Tryz.results93, go_sem, *]) rfl ⟨_, by rw [G.out.1], ?_, ?_⟩
    · rw [G.out.2]
      refine owns_lower (base := w2.heap.size) ?_ D3
      have z2 := lt_of_block C2.res
      iterate 2 (refine owns_set ?_ (fun k e => by have := owns_base ho3 k e; omega) _ _)
      exact ho3
    · iterate 2 (refine Below.setCell ?_ (by simp) _)
      exact C3.old
end Go.Proofs.YtfmdejilhbankaaGreat

namespace Go.Proofs.YtfmdejilhbankaaGreat
open Go.RowKit

/-- The tube of a path under a name, as data. -/
abbrev pathTb (nm : ByteArray) (q s fr b : Int) (l : List Stp) : Tb := ⟨nm, none, 0, 0, 0, tubeL q s fr b l⟩
theorem tubeL_len (q s fr b : Int) (l : List Stp) : (tubeL q s fr b l).length ≤ 40 := by
  unfold tubeL
  split
  · rename_i h
    rw [tubeTo_length]
    exact fly_len h
  · simp

/-- What lies while boxes of the one kind are laid as boxes of the other: all that lay, the answer's block, the tube, the boxes up to now. -/
structure LtW (w wr : World) (N : Nat) (c : Option Addr) (cb : Nat) (T : List Bx) (v : Value) (m : List Bx) : Prop where
  old : Below w.heap.size w wr
  res : wr.heap[w.heap.size + 1]? = some (.cells #[.string ⟨#[]⟩, .slice none 0 0] 96 (0, 0))
  lt : N ≤ wr.heap.size
  tb : BoxesAt wr c cb 0 T
  tbN : T ≠ [] → cb < N
  own : wr.ownsRow N 133 6 v m.length (rowC m)
section
variable {w wr w' : World} {N cb : Nat} {c : Option Addr} {T m : List Bx} {v : Value}
theorem LtW.keep (h : LtW w wr N c cb T v m) (hb : Below wr.heap.size wr w') : LtW w w' N c cb T v m :=
  ⟨h.old.trans (hb.mono h.old.size), (hb.block _ (lt_of_block h.res)).trans h.res, Nat.le_trans h.lt hb.size, h.tb.below hb h.tb.lt, h.tbN, owns_below h.own hb⟩
theorem LtW.push {v7 : Value} {t : Bx} (h : LtW w wr N c cb T v m) (hN : w.heap.size + 1 < N) (hg : wr.grownBy w' v.ownBlock) (ho : w'.ownsRow N 133 6 v7 (m.length + 1) (rowC m ++ t.cells)) : LtW w w' N c cb T v7 (m ++ [t]) := by
  have hbase := owns_base h.own
  refine ⟨h.old.grown hg h.old.size (fun k e => by have := hbase k e; omega), (hg.block _ (lt_of_block h.res) (fun e => by have := hbase _ e.symm; omega)).trans h.res, Nat.le_trans h.lt hg.size,
    h.tb.grown hg (fun hne e => by have := hbase _ e.symm; have := h.tbN hne; omega), h.tbN, ?_⟩
  rw [rowC_snoc, List.length_append]
  exact ho
end

set_option maxRecDepth 20000 in
set_option maxHeartbeats 4000000 in
theorem linkTubeI_any (hI : SpansSaid) (nm : ByteArray) (q s fr b : Int) (a : Option Addr) (b0 o cap : Nat) (l : List Stp) (n : Int) (w : World) (hl : l.length ≤ 1048576) (hs : StepsAt w a b0 o l) :
    Calls Tryz.prog 64 #[.string nm, .agg #[.int .i64 q, .int .i64 s, .slice a l.length cap, .int .i64 fr, .int .i64 b], .int .i64 n] w
      fun e w' => ∃ v, e = .returned (.agg #[.string (cutNm (pathTb nm q s fr b l)), v]) ∧ w'.ownsRow w.heap.size 133 6 v (cutBx (pathTb nm q s fr b l) n).length (rowC (cutBx (pathTb nm q s fr b l) n)) ∧ Below w.heap.size w w' := by
  obtain ⟨i0, hi, hz0, hz1, hz2⟩ := info_parts pbox_info
  have B0 : Below w.heap.size w ((w.alloc (.cells #[.int .i64 q, .int .i64 s, .slice a l.length cap, .int .i64 fr, .int .i64 b] 43)).alloc (.cells #[.string ⟨#[]⟩, .slice none 0 0] 96)) := bel2 _ _
  have R0 : ((w.alloc (.cells #[.int .i64 q, .int .i64 s, .slice a l.length cap, .int .i64 fr, .int .i64 b] 43)).alloc (.cells #[.string ⟨#[]⟩, .slice none 0 0] 96)).heap[w.heap.size + 1]? = some (.cells #[.string ⟨#[]⟩, .slice none 0 0] 96 (0, 0)) := by
    have := heap_alloc_new (w.alloc (.cells #[.int .i64 q, .int .i64 s, .slice a l.length cap, .int .i64 fr, .int .i64 b] 43)) (.cells #[.string ⟨#[]⟩, .slice none 0 0] 96)
    rwa [World.size_alloc] at this
  have ht40 := tubeL_len q s fr b l
  go_enter Tryz.func64, Tryz.ntmps64
  go_wp2_with fail
  refine (flyTubeI_any hI q s fr b a b0 o cap l _ hl (hs.below B0 hs.lt)).mono ?_
  rintro e w1 ⟨v1, rfl, ho1, hb1⟩
  obtain ⟨c1, g1, k1, rfl, R1⟩ := owns_rowB ho1
  have L1 : LtW w w1 w1.heap.size c1 g1 (tubeL q s fr b l) (.slice none 0 0) ((tubeL q s fr b l).take 0) :=
    ⟨B0.trans (hb1.mono B0.size), (hb1.block _ (lt_of_block R0)).trans R0, Nat.le_refl _, R1.at_, R1.at_.lt, World.ownsRow_nil _ _ _ _⟩
  have hN : w.heap.size + 1 < w1.heap.size := lt_of_block L1.res
  clear B0 R0 ho1 hb1 R1
  have HT : Hid (∀ a b0 o cap, cutNm ⟨nm, a, b0, o, cap, tubeL q s fr b l⟩ = cutNm (pathTb nm q s fr b l) ∧ cutBx ⟨nm, a, b0, o, cap, tubeL q s fr b l⟩ n = cutBx (pathTb nm q s fr b l) n) := fun _ _ _ _ => ⟨rfl, rfl⟩
  generalize tubeL q s fr b l = T at *
  go_wp2
  generalize w1.heap.size = N at *
  go_loopw [7, 13] (fun v x wr => ∃ k : Nat, k ≤ T.length ∧ x = .int .i64 k ∧ LtW w wr N c1 g1 T v (T.take k)) (fun _ x _ => T.length - (intOf x).toNat)
  case atStart => exact ⟨0, Nat.zero_le _, rfl, L1⟩
  case round =>
    clear L1
    obtain ⟨k, hk, rfl, hT⟩ := hrel
    by_cases hlt : k < T.length
    · obtain ⟨t, ht⟩ : ∃ t, T[k]? = some t := ⟨T[k], List.getElem?_eq_getElem hlt⟩
      have hne : T ≠ [] := by intro e; subst e; simp at hlt
      obtain rfl := hT.tb.here hne
      obtain ⟨c0, c1, c2, c3, c4, c5⟩ := hT.tb.six ht
      simp only [Nat.zero_add] at c0 c1 c2 c3 c4 c5
      have k0 : (0 : Int) ≤ (k : Int) := by omega
      have k1' : (k : Int) < (T.length : Int) := by omega
      have HB : Hid (T.take (k + 1) = T.take k ++ [t]) := by show _ = _; rw [List.take_add_one, ht]; rfl
      have hlen : (T.take k).length = k := by rw [List.length_take]; omega
      have T3 := (hT.keep (bel1 (.cells #[.int .i64 t.x, .int .i64 t.y, .int .i64 t.lo, .int .i64 t.hi, .int .i64 t.in_, .int .i64 t.out] 132))).keep (bel1 (.cells #[.int .i64 t.x, .int .i64 t.y, .int .i64 t.lo, .int .i64 t.hi, .int .i64 t.in_, .int .i64 t.out] 133))
      have zN := hT.lt
      clear ht
      go_wp2_with (at_builtin; refine wpList_append_own _ rfl (.tmp 17) (.tmp 19) 94 rfl N 133 i0 (.agg #[.int .i64 0, .int .i64 0, .int .i64 0, .int .i64 0, .int .i64 0, .int .i64 0]) 6 48 Tryz.underlying94 hi hz0 hz1 hz2 rfl (by decide) u7 _ _ rfl T3.own ⟨wr.heap.size + 1, 0, none⟩ 1 1 (Bx.cells t) rfl rfl (six_new2P wr t _ _) (by simp [Value.oneCell']) (by unfold maxLen; omega) (by omega) (by simp; omega) ?_; intro v7 w7 hown7 hgrow7 hnil7)
      go_roundw
      case rel => exact ⟨k + 1, by omega, by go_num, by rw [HB.out]; exact T3.push hN hgrow7 hown7⟩
      case measure => simp [intOf]; omega
    · obtain rfl : k = T.length := by omega
      rw [List.take_length] at hT
      obtain ⟨av, gv, cv, rfl, R2⟩ := owns_rowB hT.own
      go_wp2_with fail
      refine (cutI_any nm av gv 0 cv T n _ (by omega) R2.at_).mono ?_
      rintro e w3 ⟨v3, rfl, ho3, hb3⟩
      rw [(HT.out av gv 0 cv).1]
      rw [(HT.out av gv 0 cv).2] at ho3
      have T3 := hT.keep hb3
      obtain ⟨r0, r1, rf⟩ := blk2 T3.res
      obtain ⟨va, vc, rfl⟩ := owns_slice ho3
      have z1 := lt_of_block hT.res
      have z2 := hT.old.size
      clear hT
      go_wp2
      refine bodyPost_ret (v := .agg #[.string (cutNm (pathTb nm q s fr b l)), .slice va (cutBx (pathTb nm q s fr b l) n).length vc]) (by simp [results, Tryz.results64, go_sem, *]) rfl ⟨_, rfl, ?_, ?_⟩
      · refine owns_lower (base := wr.heap.size) ?_ (by omega)
        iterate 2 (refine owns_set ?_ (fun k e => by have := owns_base ho3 k e; omega) _ _)
        exact ho3
      · iterate 2 (refine Below.setCell ?_ (by simp) _)
        exact T3.old
end Go.Proofs.YtfmdejilhbankaaGreat

namespace Go.Proofs.YtfmdejilhbankaaGreat
open Go.RowKit

/-- A path, as an argument. -/
structure Pt where
  q : Int
  s : Int
  fr : Int
  b : Int
  a : Option Addr
  b0 : Nat
  o : Nat
  cap : Nat
  l : List Stp
abbrev Pt.val (p : Pt) : Value := .agg #[.int .i64 p.q, .int .i64 p.s, .slice p.a p.l.length p.cap, .int .i64 p.fr, .int .i64 p.b]
abbrev Pt.put (p : Pt) (g : Nat) : Pt := ⟨p.q, p.s, p.fr, p.b, some ⟨g, 0, none⟩, g, 0, p.l.length, p.l⟩
/-- Its steps lie there. -/
abbrev PtAt (w : World) (p : Pt) : Prop := StepsAt w p.a p.b0 p.o p.l
/-- Nothing. -/
def Pt.none (p : Pt) : Bool := (p.q == 0 && p.s == 0) && decide (p.l.length = 0) && (p.fr == 0) && (p.b == 0)
end Go.Proofs.YtfmdejilhbankaaGreat

namespace Go.Proofs.YtfmdejilhbankaaGreat
open Go.RowKit

theorem toStep_any (x y lo hi fr b : Int) (ho : Bool) (w : World) :
    Calls Tryz.prog 62 #[.agg #[.int .i64 x, .int .i64 y, .int .i64 lo, .int .i64 hi, .int .i64 fr, .int .i64 b, .bool ho]] w
      fun e w' => e = .returned (.agg #[.int .i64 x, .int .i64 y, .int .i64 lo, .int .i64 hi, .int .i64 fr, .int .i64 b, .bool ho]) ∧ Below w.heap.size w w' := by
  go_enter Tryz.func62, Tryz.ntmps62
  go_wp2
  refine bodyPost_ret (v := .agg #[.int .i64 x, .int .i64 y, .int .i64 lo, .int .i64 hi, .int .i64 fr, .int .i64 b, .bool ho]) (by simp [results, Tryz.results62, go_sem]) rfl ⟨rfl, ?_⟩
  exact (((Below.refl _ _).alloc (Nat.le_refl _) _).alloc (by simp) _).alloc (by simp; omega) _

theorem toKind_any (q s : Int) (w : World) :
    Calls Tryz.prog 36 #[.agg #[.int .i64 q, .int .i64 s]] w fun e w' => e = .returned (.agg #[.int .i64 q, .int .i64 s]) ∧ Below w.heap.size w w' := by
  go_enter Tryz.func36, Tryz.ntmps36
  go_wp2
  refine bodyPost_ret (v := .agg #[.int .i64 q, .int .i64 s]) (by simp [results, Tryz.results36, go_sem]) rfl ⟨rfl, ?_⟩
  exact (((Below.refl _ _).alloc (Nat.le_refl _) _).alloc (by simp) _).alloc (by simp; omega) _


set_option maxHeartbeats 1000000 in
theorem toSteps_more (a : Option Addr) (b o cap : Nat) (l : List Stp) (w : World) (hl : l.length ≤ 1048576) (hs : StepsAt w a b o l) :
    Calls Tryz.prog 37 #[.slice a l.length cap] w
      fun e w' => ∃ g, e = .returned (.slice (some ⟨g, 0, none⟩) l.length l.length) ∧ w.heap.size ≤ g ∧ g < w'.heap.size ∧ StepsAt w' (some ⟨g, 0, none⟩) g 0 l ∧ Below w.heap.size w w' ∧ ∀ i, i < l.length → w'.there g (i * 7) 7 := by
  obtain ⟨i0, hi, hz0, hz1, hz2⟩ := info_parts step_info
  go_enter Tryz.func37, Tryz.ntmps37
  go_wp2_with (first | (at_make; refine wpList_make_full _ rfl _ _ 41 rfl w.heap.size 102 i0 _ 7 Tryz.underlying41 hi hz0 hz1 .i64 .i64 _ _ l.length rfl rfl rfl rfl (by rw [hz2]; omega) (by unfold maxLen; omega) (Nat.le_refl _) ?_; intro w1 hown1 hgrow1))
  have hz : (madeCells (Value.agg #[.int .i64 0, .int .i64 0, .int .i64 0, .int .i64 0, .int .i64 0, .int .i64 0, .bool false]).cells (l.length * 7)).toList.length = l.length * 7 := hown1.1
  obtain ⟨hlen1, hrow1⟩ := hown1
  have hb1 : Below w.heap.size w w1 := (Below.refl _ _).grown hgrow1 (Nat.le_refl _) (fun k e => by cases e)
  obtain ⟨cur, hcur, hsz⟩ : ∃ cur, w1.heap[w.heap.size]? = some (.cells cur 102 (0, 0)) ∧ cur.size = l.length * 7 := by
    rcases hrow1 with ⟨h, _⟩ | ⟨g, cap, cur, h, _, hh, _, _, hs, _⟩
    · cases h
    · simp at h
      obtain ⟨rfl, rfl⟩ := h
      exact ⟨cur, hh, hs⟩
  clear hlen1 hrow1 hz hgrow1
  have hth : ∀ i, i < l.length → w1.there w.heap.size (i * 7) 7 := fun i hi => there_of_block hcur _ _ (by omega)
  have hgr1 : w.heap.size < w1.heap.size := lt_of_block hcur
  go_loopw [4] (fun v wr => ∃ k : Nat, k ≤ l.length ∧ v = .int .i64 k ∧ Below w.heap.size w wr ∧ w.heap.size < wr.heap.size ∧ (∀ i, i < l.length → wr.there w.heap.size (i * 7) 7) ∧ (∀ (i : Nat) (s : Stp), i < k → l[i]? = some s → wr.rangeAt w.heap.size (i * 7) s.cells))
    (fun v _ => l.length - (intOf v).toNat)
  case atStart => exact ⟨0, Nat.zero_le _, rfl, hb1, hgr1, hth, fun i s h => absurd h (by omega)⟩
  case round =>
    obtain ⟨k, hk, rfl, hb, hgr, hthr, hdone⟩ := hrel
    by_cases hlt : k < l.length
    · obtain ⟨s, hsk⟩ : ∃ s, l[k]? = some s := ⟨l[k], List.getElem?_eq_getElem hlt⟩
      have hne : l ≠ [] := by intro e; subst e; simp at hlt
      obtain rfl := hs.here hne
      have hbw := hs.lt hne
      obtain ⟨c0, c1, c2, c3, c4, c5, c6⟩ := (hs.below hb (fun _ => hbw)).seven hsk
      go_wp2_with fail
      refine (toStep_any _ _ _ _ _ _ _ _).mono ?_
      rintro e w2 ⟨rfl, hb2⟩
      have hth2 : w2.there w.heap.size (k * 7) 7 := there_below (hthr k hlt) hb2 hgr
      have HT : Hid (w2.there w.heap.size (k * 7) 7) := hth2
      go_wp2_with (refine store_step rfl (.tmp 21) (.tmp 20) rfl w.heap.size (k * 7) s rfl rfl hth2 ?_; clear hth2)
      go_roundw
      case rel =>
        refine ⟨k + 1, by omega, by go_num, below_setCells (Nat.le_refl _) _ _ _ _ (hb.trans (hb2.mono (by have := hb.size; omega))), ?_, ?_, ?_⟩
        · rw [size_setCells]; have := hb2.size; omega
        · intro i hi
          exact World.there_setCells (there_below (hthr i hi) hb2 hgr) _ _ _
        · intro i s' hi hs'
          by_cases hik : i = k
          · subst hik
            obtain rfl : s = s' := by rw [hsk] at hs'; simpa using hs'
            exact World.rangeAt_setCells_same _ _ _ _ HT.out
          · exact World.rangeAt_setCells_apart (range_below (hdone i s' (by omega) hs') hb2 hgr) _ _ _ (by right; left; simp; omega)
      case measure => simp [intOf]; omega
    · have hkl : k = l.length := by omega
      subst hkl
      go_wp2
      go_ret
      exact ⟨w.heap.size, rfl, Nat.le_refl _, hgr, ⟨fun _ => rfl, fun _ => hgr, fun i s hi => by simpa using hdone i s (List.getElem?_eq_some_iff.1 hi).1 hi⟩, hb, hthr⟩

theorem toSteps_any (a : Option Addr) (b o cap : Nat) (l : List Stp) (w : World) (hl : l.length ≤ 1048576) (hs : StepsAt w a b o l) :
    Calls Tryz.prog 37 #[.slice a l.length cap] w
      fun e w' => ∃ g, e = .returned (.slice (some ⟨g, 0, none⟩) l.length l.length) ∧ w.heap.size ≤ g ∧ g < w'.heap.size ∧ StepsAt w' (some ⟨g, 0, none⟩) g 0 l ∧ Below w.heap.size w w' :=
  (toSteps_more a b o cap l w hl hs).mono fun _ _ ⟨g, h1, h2, h3, h4, h5, _⟩ => ⟨g, h1, h2, h3, h4, h5⟩
end Go.Proofs.YtfmdejilhbankaaGreat

namespace Go.Proofs.YtfmdejilhbankaaGreat
open Go.RowKit


/-- A store anywhere leaves places that can be written. -/
theorem there_set {w : World} {b o n : Nat} (h : w.there b o n) (pb po : Nat) (v : Value) : (w.setCell ⟨pb, po, none⟩ v).there b o n := World.there_setCells h pb po [v]

theorem szSteps_any (a : Option Addr) (n cap : Nat) (left : Int) (w : World) (hn : n ≤ maxLen) (h0 : -1 ≤ left) (h1 : left ≤ 1048576) :
    Calls Tryz.prog 33 #[.slice a n cap, .int .i64 left] w fun e w' => e = .returned (.int .i64 (leftB left n)) ∧ w' = w := by
  unfold maxLen at hn
  by_cases h : left - n < 0
  · go_enter Tryz.func33, Tryz.ntmps33
    go_wp2
    go_ret
    exact ⟨by simp [leftB, h], rfl⟩
  · go_enter Tryz.func33, Tryz.ntmps33
    go_wp2
    go_ret
    exact ⟨by rw [leftB, if_neg (by omega)]; rfl, rfl⟩


theorem szPath_any (q s fr b : Int) (a : Option Addr) (n cap : Nat) (left : Int) (w : World) (hn : n ≤ maxLen) (h0 : -1 ≤ left) (h1 : left ≤ 1048576) :
    Calls Tryz.prog 11 #[.agg #[.int .i64 q, .int .i64 s, .slice a n cap, .int .i64 fr, .int .i64 b], .int .i64 left] w fun e w' => e = .returned (.int .i64 (leftB left n)) ∧ Below w.heap.size w w' := by
  have hb := (Below.refl w.heap.size w).alloc (Nat.le_refl _) (.cells #[.int .i64 q, .int .i64 s, .slice a n cap, .int .i64 fr, .int .i64 b] 37)
  obtain ⟨k0, _⟩ := leftB_left left n h0 h1
  by_cases h : leftB left n < 0
  · have e1 : leftB left n = -1 := by omega
    go_enter Tryz.func11, Tryz.ntmps11
    go_wp2_with (go_at_call 33; refine (szSteps_any _ _ _ _ _ hn h0 h1).mono ?_; rintro e w' ⟨rfl, rfl⟩)
    go_ret
    exact ⟨by rw [e1]; rfl, hb⟩
  · go_enter Tryz.func11, Tryz.ntmps11
    go_wp2_with (go_at_call 33; refine (szSteps_any _ _ _ _ _ hn h0 h1).mono ?_; rintro e w' ⟨rfl, rfl⟩)
    go_ret
    exact ⟨rfl, hb⟩

set_option maxHeartbeats 1000000 in
theorem toPath_more (q s fr b : Int) (a : Option Addr) (b0 o cap : Nat) (l : List Stp) (w : World) (hl : l.length ≤ 1048576) (hs : StepsAt w a b0 o l) :
    Calls Tryz.prog 13 #[.agg #[.int .i64 q, .int .i64 s, .slice a l.length cap, .int .i64 fr, .int .i64 b]] w
      fun e w' => ∃ g, e = .returned (.agg #[.int .i64 q, .int .i64 s, .slice (some ⟨g, 0, none⟩) l.length l.length, .int .i64 fr, .int .i64 b]) ∧ w.heap.size ≤ g ∧ g < w'.heap.size ∧ StepsAt w' (some ⟨g, 0, none⟩) g 0 l ∧ Below w.heap.size w w' ∧ ∀ i, i < l.length → w'.there g (i * 7) 7 := by
  go_enter Tryz.func13, Tryz.ntmps13
  go_wp2_with fail
  refine (toKind_any _ _ _).mono ?_
  rintro e w1 ⟨rfl, hb1⟩
  obtain ⟨hc1, hf1⟩ := old_cells hb1
  have hz1 := hb1.size
  simp at hz1
  have hb01 : Below w.heap.size w w1 := ((((Below.refl w.heap.size w).alloc (Nat.le_refl _) _).alloc (by simp) _).alloc (by simp; omega) _).trans (hb1.mono (by simp; omega))
  have hs1 := hs.below hb01 (fun h => hs.lt h)
  go_wp2_with fail
  refine (toSteps_more _ b0 o _ _ _ hl ?_).mono ?_
  · exact hs.below ((hb01.setCell (by simp; omega) _).setCell (by simp; omega) _) (fun h => hs.lt h)
  rintro e w2 ⟨g, rfl, hg1, hg2, hs2, hb2, hth⟩
  have HTH : Hid (∀ i, i < l.length → w2.there g (i * 7) 7) := hth
  clear hth
  obtain ⟨hc2, hf2⟩ := old_cells hb2
  have hz2 := hb2.size
  simp [World.setCell] at hz2 hg1
  have hb02 : Below w.heap.size w w2 := ((hb01.setCell (by simp; omega) _).setCell (by simp; omega) _).trans (hb2.mono (by simp [World.setCell]; omega))
  have hC1 : ∀ b o, b < w.heap.size + 3 → w1.cell? ⟨b, o, none⟩ = _ := fun b o h => hc1 b o (by simp; omega)
  have hF1 : ∀ b o, b < w.heap.size + 3 → w1.frozen? ⟨b, o, none⟩ = _ := fun b o h => hf1 b o (by simp; omega)
  have hC2 : ∀ b o, b < w.heap.size + 3 → w2.cell? ⟨b, o, none⟩ = _ := fun b o h => hc2 b o (by simp [World.setCell]; omega)
  have hF2 : ∀ b o, b < w.heap.size + 3 → w2.frozen? ⟨b, o, none⟩ = _ := fun b o h => hf2 b o (by simp [World.setCell]; omega)
  clear hc1 hf1 hc2 hf2
  have a3 : w2.cell? ⟨w.heap.size, 3, none⟩ = some (.int .i64 fr) := by rw [hC2 _ _ (by omega)]; simp [go_sem, hC1]
  have a4 : w2.cell? ⟨w.heap.size, 4, none⟩ = some (.int .i64 b) := by rw [hC2 _ _ (by omega)]; simp [go_sem, hC1]
  have o0 : w2.cell? ⟨w.heap.size + 1 + 1, 0, none⟩ = some (.int .i64 q) := by rw [hC2 _ _ (by omega)]; simp [go_sem, hC1]
  have o1 : w2.cell? ⟨w.heap.size + 1 + 1, 1, none⟩ = some (.int .i64 s) := by rw [hC2 _ _ (by omega)]; simp [go_sem, hC1]
  have o2 : w2.cell? ⟨w.heap.size + 1 + 1, 2, none⟩ = some (.slice none 0 0) := by rw [hC2 _ _ (by omega)]; simp [go_sem, hC1]
  have o3 : w2.cell? ⟨w.heap.size + 1 + 1, 3, none⟩ = some (.int .i64 0) := by rw [hC2 _ _ (by omega)]; simp [go_sem, hC1]
  have o4 : w2.cell? ⟨w.heap.size + 1 + 1, 4, none⟩ = some (.int .i64 0) := by rw [hC2 _ _ (by omega)]; simp [go_sem, hC1]
  have fo : ∀ j, w2.frozen? ⟨w.heap.size + 1 + 1, j, none⟩ = false := by intro j; rw [hF2 _ _ (by omega)]; simp [go_sem, hF1]
  have r0 : w2.cell? ⟨w.heap.size + 1, 0, none⟩ = some (.int .i64 0) := by rw [hC2 _ _ (by omega)]; simp [go_sem, hC1]
  have r1 : w2.cell? ⟨w.heap.size + 1, 1, none⟩ = some (.int .i64 0) := by rw [hC2 _ _ (by omega)]; simp [go_sem, hC1]
  have r2 : w2.cell? ⟨w.heap.size + 1, 2, none⟩ = some (.slice none 0 0) := by rw [hC2 _ _ (by omega)]; simp [go_sem, hC1]
  have r3 : w2.cell? ⟨w.heap.size + 1, 3, none⟩ = some (.int .i64 0) := by rw [hC2 _ _ (by omega)]; simp [go_sem, hC1]
  have r4 : w2.cell? ⟨w.heap.size + 1, 4, none⟩ = some (.int .i64 0) := by rw [hC2 _ _ (by omega)]; simp [go_sem, hC1]
  have fr1 : ∀ j, w2.frozen? ⟨w.heap.size + 1, j, none⟩ = false := by intro j; rw [hF2 _ _ (by omega)]; simp [go_sem, hF1]
  clear hC1 hC2 hF1 hF2 hs1 hb01 hb1 hs
  go_wp2
  refine bodyPost_ret (v := .agg #[.int .i64 q, .int .i64 s, .slice (some ⟨g, 0, none⟩) l.length l.length, .int .i64 fr, .int .i64 b]) (by simp [results, Tryz.results13, go_sem, *]) rfl ⟨g, rfl, by omega, ?_, ?_, ?_, ?_⟩
  · simpa [World.setCell] using hg2
  · iterate 8 (refine StepsAt.set ?_ (by simp; omega) _)
    exact hs2
  · iterate 8 (refine Below.setCell ?_ (by simp <;> omega) _)
    exact hb02
  · intro i hi
    iterate 8 (refine there_set ?_ _ _ _)
    exact HTH.out i hi

theorem toPath_any (q s fr b : Int) (a : Option Addr) (b0 o cap : Nat) (l : List Stp) (w : World) (hl : l.length ≤ 1048576) (hs : StepsAt w a b0 o l) :
    Calls Tryz.prog 13 #[.agg #[.int .i64 q, .int .i64 s, .slice a l.length cap, .int .i64 fr, .int .i64 b]] w
      fun e w' => ∃ g, e = .returned (.agg #[.int .i64 q, .int .i64 s, .slice (some ⟨g, 0, none⟩) l.length l.length, .int .i64 fr, .int .i64 b]) ∧ w.heap.size ≤ g ∧ g < w'.heap.size ∧ StepsAt w' (some ⟨g, 0, none⟩) g 0 l ∧ Below w.heap.size w w' :=
  (toPath_more q s fr b a b0 o cap l w hl hs).mono fun _ _ ⟨g, h1, h2, h3, h4, h5, _⟩ => ⟨g, h1, h2, h3, h4, h5⟩
end Go.Proofs.YtfmdejilhbankaaGreat

namespace Go.Proofs.YtfmdejilhbankaaGreat
open Go.RowKit

theorem eqKind_same (q s : Int) (w : World) :
    Calls Tryz.prog 40 #[.agg #[.int .i64 q, .int .i64 s], .agg #[.int .i64 q, .int .i64 s]] w fun e w' => e = .returned (.bool true) ∧ Below w.heap.size w w' := by
  go_enter Tryz.func40, Tryz.ntmps40
  go_wp2
  go_ret
  exact ⟨rfl, ((Below.refl _ _).alloc (Nat.le_refl _) _).alloc (by simp) _⟩

theorem eqStep_same (x y lo hi fr b : Int) (ho : Bool) (w : World) :
    Calls Tryz.prog 65 #[.agg #[.int .i64 x, .int .i64 y, .int .i64 lo, .int .i64 hi, .int .i64 fr, .int .i64 b, .bool ho], .agg #[.int .i64 x, .int .i64 y, .int .i64 lo, .int .i64 hi, .int .i64 fr, .int .i64 b, .bool ho]] w
      fun e w' => e = .returned (.bool true) ∧ Below w.heap.size w w' := by
  go_enter Tryz.func65, Tryz.ntmps65
  go_wp2
  go_ret
  exact ⟨rfl, ((Below.refl _ _).alloc (Nat.le_refl _) _).alloc (by simp) _⟩

set_option maxHeartbeats 1000000 in
theorem eqSteps_same (a a' : Option Addr) (b o cap b' o' cap' : Nat) (l : List Stp) (w : World) (hl : l.length ≤ 1048576) (hs : StepsAt w a b o l) (hs' : StepsAt w a' b' o' l) :
    Calls Tryz.prog 41 #[.slice a l.length cap, .slice a' l.length cap'] w fun e w' => e = .returned (.bool true) ∧ Below w.heap.size w w' := by
  go_enter Tryz.func41, Tryz.ntmps41
  go_wp2
  go_loopw [5] (fun v wr => ∃ k : Nat, k ≤ l.length ∧ v = .int .i64 k ∧ Below w.heap.size w wr) (fun v _ => l.length - (intOf v).toNat)
  case atStart => exact ⟨0, Nat.zero_le _, rfl, Below.refl _ _⟩
  case round =>
    obtain ⟨k, hk, rfl, hb⟩ := hrel
    by_cases hlt : k < l.length
    · obtain ⟨s, hsk⟩ : ∃ s, l[k]? = some s := ⟨l[k], List.getElem?_eq_getElem hlt⟩
      have hne : l ≠ [] := by intro e; subst e; simp at hlt
      obtain rfl := hs.here hne
      obtain rfl := hs'.here hne
      have hbw := hs.lt hne
      have hbw' := hs'.lt hne
      obtain ⟨c0, c1, c2, c3, c4, c5, c6⟩ := (hs.below hb (fun _ => hbw)).seven hsk
      obtain ⟨d0, d1, d2, d3, d4, d5, d6⟩ := (hs'.below hb (fun _ => hbw')).seven hsk
      have k0 : (0 : Int) ≤ (k : Int) := by omega
      have k1 : (k : Int) < (l.length : Int) := by omega
      have hbx : b < wr.heap.size := Nat.lt_of_lt_of_le hbw hb.size
      have hbx' : b' < wr.heap.size := Nat.lt_of_lt_of_le hbw' hb.size
      have HS : Hid (l[k]? = some s) := hsk
      clear hsk
      go_wp2
      go_region_held3 (fun w' => w'.cell? ⟨b, o + k * 7, none⟩ = some (.int .i64 s.x) ∧ w'.cell? ⟨b, o + k * 7 + 1, none⟩ = some (.int .i64 s.y) ∧ w'.cell? ⟨b, o + k * 7 + 2, none⟩ = some (.int .i64 s.lo) ∧ w'.cell? ⟨b, o + k * 7 + 3, none⟩ = some (.int .i64 s.hi) ∧ w'.cell? ⟨b, o + k * 7 + 4, none⟩ = some (.int .i64 s.fr) ∧ w'.cell? ⟨b, o + k * 7 + 5, none⟩ = some (.int .i64 s.by_) ∧ w'.cell? ⟨b, o + k * 7 + 6, none⟩ = some (.bool s.ho) ∧
        w'.cell? ⟨b', o' + k * 7, none⟩ = some (.int .i64 s.x) ∧ w'.cell? ⟨b', o' + k * 7 + 1, none⟩ = some (.int .i64 s.y) ∧ w'.cell? ⟨b', o' + k * 7 + 2, none⟩ = some (.int .i64 s.lo) ∧ w'.cell? ⟨b', o' + k * 7 + 3, none⟩ = some (.int .i64 s.hi) ∧ w'.cell? ⟨b', o' + k * 7 + 4, none⟩ = some (.int .i64 s.fr) ∧ w'.cell? ⟨b', o' + k * 7 + 5, none⟩ = some (.int .i64 s.by_) ∧ w'.cell? ⟨b', o' + k * 7 + 6, none⟩ = some (.bool s.ho))
        (simp [go_sem, *])
        (first | (go_at_call 65; refine (eqStep_same _ _ _ _ _ _ _ _).mono ?_; rintro e w1 ⟨rfl, hb1⟩; have hc1 : ∀ j, w1.cell? ⟨b, j, none⟩ = wr.cell? ⟨b, j, none⟩ := fun j => hb1.cell (p := ⟨b, j, none⟩) hbx; have hc2 : ∀ j, w1.cell? ⟨b', j, none⟩ = wr.cell? ⟨b', j, none⟩ := fun j => hb1.cell (p := ⟨b', j, none⟩) hbx'))
      go_wp2
      go_roundw
      case rel => exact ⟨k + 1, by omega, by go_num, hb.drew.trans (hb1.mono hb.size)⟩
      case measure => simp [intOf]; omega
    · go_wp2
      go_ret
      exact ⟨rfl, hb⟩

set_option maxHeartbeats 1000000 in
theorem eqPath_same (q s fr b : Int) (a a' : Option Addr) (b0 o cap b0' o' cap' : Nat) (l : List Stp) (w : World) (hl : l.length ≤ 1048576) (hs : StepsAt w a b0 o l) (hs' : StepsAt w a' b0' o' l) :
    Calls Tryz.prog 15 #[.agg #[.int .i64 q, .int .i64 s, .slice a l.length cap, .int .i64 fr, .int .i64 b], .agg #[.int .i64 q, .int .i64 s, .slice a' l.length cap', .int .i64 fr, .int .i64 b]] w
      fun e w' => e = .returned (.bool true) ∧ Below w.heap.size w w' := by
  go_enter Tryz.func15, Tryz.ntmps15
  go_wp2_with fail
  refine (eqKind_same _ _ _).mono ?_
  rintro e w1 ⟨rfl, hb1⟩
  obtain ⟨hc1, _⟩ := old_cells hb1
  have hz1 := hb1.size
  simp at hz1
  have hb01 : Below w.heap.size w w1 := (((Below.refl w.heap.size w).alloc (Nat.le_refl _) _).alloc (by simp) _).trans (hb1.mono (by simp; omega))
  have hC1 : ∀ b o, b < w.heap.size + 2 → w1.cell? ⟨b, o, none⟩ = _ := fun b o h => hc1 b o (by simp; omega)
  have a2 : w1.cell? ⟨w.heap.size, 2, none⟩ = some (.slice a l.length cap) := by rw [hC1 _ _ (by omega)]; simp [go_sem]
  have a3 : w1.cell? ⟨w.heap.size, 3, none⟩ = some (.int .i64 fr) := by rw [hC1 _ _ (by omega)]; simp [go_sem]
  have a4 : w1.cell? ⟨w.heap.size, 4, none⟩ = some (.int .i64 b) := by rw [hC1 _ _ (by omega)]; simp [go_sem]
  have d2 : w1.cell? ⟨w.heap.size + 1, 2, none⟩ = some (.slice a' l.length cap') := by rw [hC1 _ _ (by omega)]; simp [go_sem]
  have d3 : w1.cell? ⟨w.heap.size + 1, 3, none⟩ = some (.int .i64 fr) := by rw [hC1 _ _ (by omega)]; simp [go_sem]
  have d4 : w1.cell? ⟨w.heap.size + 1, 4, none⟩ = some (.int .i64 b) := by rw [hC1 _ _ (by omega)]; simp [go_sem]
  clear hc1 hC1
  go_wp2_with fail
  refine (eqSteps_same _ _ b0 o _ b0' o' _ _ _ hl (hs.below hb01 hs.lt) (hs'.below hb01 hs'.lt)).mono ?_
  rintro e w2 ⟨rfl, hb2⟩
  have z : w.heap.size + 1 < w1.heap.size := by omega
  have e3 : w2.cell? ⟨w.heap.size, 3, none⟩ = some (.int .i64 fr) := (hb2.cell (p := ⟨w.heap.size, 3, none⟩) (by show w.heap.size < _; omega)).trans a3
  have e4 : w2.cell? ⟨w.heap.size, 4, none⟩ = some (.int .i64 b) := (hb2.cell (p := ⟨w.heap.size, 4, none⟩) (by show w.heap.size < _; omega)).trans a4
  have g3 : w2.cell? ⟨w.heap.size + 1, 3, none⟩ = some (.int .i64 fr) := (hb2.cell (p := ⟨w.heap.size + 1, 3, none⟩) z).trans d3
  have g4 : w2.cell? ⟨w.heap.size + 1, 4, none⟩ = some (.int .i64 b) := (hb2.cell (p := ⟨w.heap.size + 1, 4, none⟩) z).trans d4
  go_wp2
  go_ret
  exact ⟨rfl, hb01.trans (hb2.mono (by omega))⟩
end Go.Proofs.YtfmdejilhbankaaGreat

namespace Go.Proofs.YtfmdejilhbankaaGreat
open Go.RowKit

/-- What is left of a measure behind a name and a list. -/
def leftN (left : Int) (z n : Nat) : Int := if left - z < 0 then -1 else leftB (left - z) n
theorem leftN_left (left : Int) (z n : Nat) (h1 : left ≤ 1048576) : -1 ≤ leftN left z n ∧ leftN left z n ≤ 1048576 := by
  unfold leftN leftB; split
  · omega
  · split <;> omega
theorem leftN_small {left : Int} {z n : Nat} (h1 : left ≤ 1048576) (h : 0 ≤ leftN left z n) : n ≤ 1048576 := by
  unfold leftN leftB at h; split at h
  · omega
  · split at h <;> omega
end Go.Proofs.YtfmdejilhbankaaGreat

namespace Go.Proofs.YtfmdejilhbankaaGreat
open Go.RowKit

/-- Somebody who holds something. -/
structure Hd where
  nm : ByteArray
  n : Int
  p : Pt
  sn : Int
  x : Pt
abbrev Hd.cl (t : Hd) : List Value := [.string t.nm, .int .i64 t.n, .int .i64 t.p.q, .int .i64 t.p.s, .slice t.p.a t.p.l.length t.p.cap, .int .i64 t.p.fr, .int .i64 t.p.b, .int .i64 t.sn, .int .i64 t.x.q, .int .i64 t.x.s, .slice t.x.a t.x.l.length t.x.cap, .int .i64 t.x.fr, .int .i64 t.x.b]
abbrev Hd.val (t : Hd) : Value := .agg #[.string t.nm, .int .i64 t.n, .int .i64 t.p.q, .int .i64 t.p.s, .slice t.p.a t.p.l.length t.p.cap, .int .i64 t.p.fr, .int .i64 t.p.b, .int .i64 t.sn, .int .i64 t.x.q, .int .i64 t.x.s, .slice t.x.a t.x.l.length t.x.cap, .int .i64 t.x.fr, .int .i64 t.x.b]
abbrev Hd.put (t : Hd) (g h : Nat) : Hd := ⟨t.nm, t.n, t.p.put g, t.sn, t.x.put h⟩
/-- Their lists lie there. -/
structure HdAt (w : World) (t : Hd) : Prop where
  p : PtAt w t.p
  x : PtAt w t.x
theorem HdAt.below {w w' : World} {t : Hd} (h : HdAt w t) (hb : Below w.heap.size w w') : HdAt w' t := ⟨h.p.below hb h.p.lt, h.x.below hb h.x.lt⟩
/-- Their box. -/
structure HdIn (W : World) (B : Nat) (t : Hd) : Prop where
  lt : B < W.heap.size
  cs : W.rangeAt B 0 t.cl
theorem HdIn.keep {W W' : World} {B N : Nat} {t : Hd} (h : HdIn W B t) (hb : Below N W W') (hN : B < N) : HdIn W' B t := ⟨Nat.lt_of_lt_of_le h.lt hb.size, range_below h.cs hb hN⟩
theorem HdIn.new (w : World) (t : Hd) (T : TypeId) : HdIn (w.alloc (.cells #[.string t.nm, .int .i64 t.n, .int .i64 t.p.q, .int .i64 t.p.s, .slice t.p.a t.p.l.length t.p.cap, .int .i64 t.p.fr, .int .i64 t.p.b, .int .i64 t.sn, .int .i64 t.x.q, .int .i64 t.x.s, .slice t.x.a t.x.l.length t.x.cap, .int .i64 t.x.fr, .int .i64 t.x.b] T)) w.heap.size t where
  lt := by simp
  cs := fun j v hv => by
    match j, hv with
    | 0, hv | 1, hv | 2, hv | 3, hv | 4, hv | 5, hv | 6, hv | 7, hv | 8, hv | 9, hv | 10, hv | 11, hv | 12, hv => simp at hv; subst hv; simp [go_sem]
theorem cl_cells {W : World} {B o : Nat} {t : Hd} (h : W.rangeAt B o t.cl) :
    W.cell? ⟨B, o, none⟩ = some (.string t.nm) ∧ W.cell? ⟨B, o + 1, none⟩ = some (.int .i64 t.n) ∧ W.cell? ⟨B, o + 2, none⟩ = some (.int .i64 t.p.q) ∧ W.cell? ⟨B, o + 3, none⟩ = some (.int .i64 t.p.s) ∧ W.cell? ⟨B, o + 4, none⟩ = some (.slice t.p.a t.p.l.length t.p.cap) ∧ W.cell? ⟨B, o + 5, none⟩ = some (.int .i64 t.p.fr) ∧ W.cell? ⟨B, o + 6, none⟩ = some (.int .i64 t.p.b) ∧ W.cell? ⟨B, o + 7, none⟩ = some (.int .i64 t.sn) ∧
    W.cell? ⟨B, o + 8, none⟩ = some (.int .i64 t.x.q) ∧ W.cell? ⟨B, o + 9, none⟩ = some (.int .i64 t.x.s) ∧ W.cell? ⟨B, o + 10, none⟩ = some (.slice t.x.a t.x.l.length t.x.cap) ∧ W.cell? ⟨B, o + 11, none⟩ = some (.int .i64 t.x.fr) ∧ W.cell? ⟨B, o + 12, none⟩ = some (.int .i64 t.x.b) :=
  ⟨h 0 _ rfl, h 1 _ rfl, h 2 _ rfl, h 3 _ rfl, h 4 _ rfl, h 5 _ rfl, h 6 _ rfl, h 7 _ rfl, h 8 _ rfl, h 9 _ rfl, h 10 _ rfl, h 11 _ rfl, h 12 _ rfl⟩

/-- Those who hold something lie in a row. -/
structure HdsAt (w : World) (a : Option Addr) (b o : Nat) (ts : List Hd) : Prop where
  here : ts ≠ [] → a = some ⟨b, o, none⟩
  lt : ts ≠ [] → b < w.heap.size
  cell : ∀ (i : Nat) (t : Hd), ts[i]? = some t → w.rangeAt b (o + i * 13) t.cl
  each : ∀ t ∈ ts, HdAt w t
theorem HdsAt.below {w w' : World} {a : Option Addr} {b o : Nat} {ts : List Hd} (h : HdsAt w a b o ts) (hb : Below w.heap.size w w') : HdsAt w' a b o ts where
  here := h.here
  lt hl := Nat.lt_of_lt_of_le (h.lt hl) hb.size
  cell i t hi := range_below (h.cell i t hi) hb (h.lt (by intro e; subst e; simp at hi))
  each t ht := (h.each t ht).below hb

/-- A path and somebody who holds something, without where they lie. -/
def Pt.key (p : Pt) : Int × Int × Int × Int × List Stp := (p.q, p.s, p.fr, p.b, p.l)
def Hd.key (t : Hd) : ByteArray × Int × (Int × Int × Int × Int × List Stp) × Int × (Int × Int × Int × Int × List Stp) := (t.nm, t.n, t.p.key, t.sn, t.x.key)
/-- us are copies of ts. -/
structure CopiedH (ts us : List Hd) : Prop where
  len : us.length = ts.length
  at_ : ∀ (i : Nat) (t : Hd), ts[i]? = some t → ∃ g h, us[i]? = some (t.put g h)
theorem CopiedH.keys {ts us : List Hd} (h : CopiedH ts us) : us.map Hd.key = ts.map Hd.key := by
  apply List.ext_getElem?
  intro i
  rw [List.getElem?_map, List.getElem?_map]
  cases ht : ts[i]? with
  | none =>
    have : us[i]? = none := by rw [List.getElem?_eq_none_iff] at ht ⊢; have := h.len; omega
    rw [this]
  | some t =>
    obtain ⟨g, k, hg⟩ := h.at_ i t ht
    rw [hg]; rfl
theorem CopiedH.small {ts us : List Hd} (h : CopiedH ts us) (hs : ∀ t ∈ ts, t.p.l.length ≤ 1048576 ∧ t.x.l.length ≤ 1048576) : ∀ u ∈ us, u.p.l.length ≤ 1048576 ∧ u.x.l.length ≤ 1048576 := fun u hu => by
  obtain ⟨i, hi⟩ := List.mem_iff_getElem?.1 hu
  obtain ⟨t, ht⟩ : ∃ t, ts[i]? = some t := ⟨ts[i]'(by have := (List.getElem?_eq_some_iff.1 hi).1; have := h.len; omega), List.getElem?_eq_getElem _⟩
  obtain ⟨g, k, hg⟩ := h.at_ i t ht
  rw [hi] at hg
  cases hg
  exact hs t (List.mem_of_getElem? ht)

/-- What is left of a measure behind somebody who holds something, and behind a row of them. -/
def leftH (left : Int) (t : Hd) : Int := if leftN left t.nm.size t.p.l.length < 0 then -1 else leftB (leftN left t.nm.size t.p.l.length) t.x.l.length
theorem leftH_left (left : Int) (t : Hd) (h1 : left ≤ 1048576) : -1 ≤ leftH left t ∧ leftH left t ≤ 1048576 := by
  have hx := leftN_left left t.nm.size t.p.l.length h1
  unfold leftH
  split
  · omega
  · unfold leftB
    split <;> omega
theorem leftH_small {left : Int} {t : Hd} (h1 : left ≤ 1048576) (h : 0 ≤ leftH left t) : t.p.l.length ≤ 1048576 ∧ t.x.l.length ≤ 1048576 := by
  have hx := leftN_left left t.nm.size t.p.l.length h1
  unfold leftH at h
  split at h
  · omega
  · rename_i hn
    refine ⟨leftN_small (z := t.nm.size) h1 (by omega), ?_⟩
    unfold leftB at h
    split at h <;> omega
def leftHs (left : Int) (ts : List Hd) : Int := ts.foldl leftH (leftB left ts.length)
theorem leftH_neg {left : Int} {t : Hd} (h : left < 0) : leftH left t = -1 := by unfold leftH leftN; rw [if_pos (by omega : left - (t.nm.size : Int) < 0)]; simp
theorem foldH_neg : ∀ (ts : List Hd) (left : Int), left = -1 → ts.foldl leftH left = -1
  | [], _, h => h
  | t :: ts, left, h => by rw [List.foldl_cons]; exact foldH_neg ts _ (leftH_neg (by omega))
theorem foldH_take (ts : List Hd) (left : Int) {k : Nat} {t : Hd} (h : ts[k]? = some t) : (ts.take (k + 1)).foldl leftH left = leftH ((ts.take k).foldl leftH left) t := by
  rw [List.take_add_one, h]; simp [List.foldl_append]
theorem foldH_split (ts : List Hd) (left : Int) (k : Nat) : ts.foldl leftH left = (ts.drop k).foldl leftH ((ts.take k).foldl leftH left) := by
  rw [← List.foldl_append, List.take_append_drop]
theorem foldH_range (ts : List Hd) (left : Int) (h0 : -1 ≤ left) (h1 : left ≤ 1048576) : -1 ≤ ts.foldl leftH left ∧ ts.foldl leftH left ≤ 1048576 := by
  induction ts generalizing left with
  | nil => exact ⟨h0, h1⟩
  | cons t ts ih => rw [List.foldl_cons]; have := leftH_left left t h1; exact ih _ this.1 this.2
theorem foldH_small : ∀ (ts : List Hd) (left : Int), -1 ≤ left → left ≤ 1048576 → 0 ≤ ts.foldl leftH left → ∀ t ∈ ts, t.p.l.length ≤ 1048576 ∧ t.x.l.length ≤ 1048576
  | [], _, _, _, _, _, ht => by simp at ht
  | s :: ts, left, h0, h1, h, t, ht => by
    rw [List.foldl_cons] at h
    have hr := leftH_left left s h1
    by_cases hn : leftH left s < 0
    · rw [foldH_neg ts _ (by omega)] at h; omega
    rcases List.mem_cons.1 ht with rfl | ht
    · exact leftH_small h1 (by omega)
    · exact foldH_small ts _ hr.1 hr.2 h t ht
end Go.Proofs.YtfmdejilhbankaaGreat

namespace Go.Proofs.YtfmdejilhbankaaGreat
open Go.RowKit

abbrev nmA : ByteArray := ⟨#[97]⟩
abbrev nmAny : ByteArray := ⟨#[97, 110, 121]⟩
theorem nameA : nameB nmA = true := by decide +kernel
theorem nameAny : nameB nmAny = true := by decide +kernel
theorem cutBx_late {t : Tb} {n : Int} (h : 10000 < n) : cutBx t n = [] := by
  unfold cutBx
  split
  · rename_i ht
    unfold tubeB at ht
    simp only [Bool.and_eq_true, List.all_eq_true] at ht
    unfold cutL
    rw [List.map_eq_nil_iff, List.filter_eq_nil_iff]
    intro s hs
    have := (boxB_iff s).1 (ht.2 s hs)
    simp
    omega
  · rfl
theorem cutBx_name {nm nm' : ByteArray} (h : nameB nm = true) (h' : nameB nm' = true) (q s fr b n : Int) (l : List Stp) : cutBx (pathTb nm q s fr b l) n = cutBx (pathTb nm' q s fr b l) n := by
  unfold cutBx tubeB
  simp only [h, h']
/-- A flight along this path may be in the air behind a tick. -/
def liveK (k : Int × Int × Int × Int × List Stp) (now : Int) : Bool := decide (0 < (cutBx (pathTb nmAny k.1 k.2.1 k.2.2.1 k.2.2.2.1 k.2.2.2.2) ((if now < 10000 then now else 10000) + 1)).length)
def goesK (now : Int) (k : ByteArray × Int × (Int × Int × Int × Int × List Stp) × Int × (Int × Int × Int × Int × List Stp)) : Bool := liveK k.2.2.1 now || liveK k.2.2.2.2 now
def goesH (now : Int) (t : Hd) : Bool := goesK now t.key
theorem liveK_over {p : Pt} {now : Int} (h : 10000 ≤ now) : liveK p.key now = false := by
  unfold liveK
  rw [cutBx_late (by rw [if_neg (by omega)]; decide)]
  rfl
theorem liveK_under {p : Pt} {now : Int} (h : now < 10000) : liveK p.key now = decide (0 < (cutBx (pathTb nmA p.q p.s p.fr p.b p.l) (now + 1)).length) := by
  unfold liveK
  rw [cutBx_name nameAny nameA, if_pos h]
  rfl
theorem goes_filter {us ts : List Hd} {now : Int} (h : us.map Hd.key = ts.map Hd.key) : (us.filter (goesH now)).map Hd.key = (ts.filter (goesH now)).map Hd.key := by
  have e : ∀ l : List Hd, (l.filter (goesH now)).map Hd.key = (l.map Hd.key).filter (goesK now) := fun l => by
    rw [List.filter_map]
    rfl
  rw [e, e, h]
theorem fld_boxes (n v : Value) (W : World) : (Instr.field 96 (.agg #[n, v]) 1).run Tryz.prog W = .ok v W := by
  simp [Instr.field, go_sem, asAgg]
end Go.Proofs.YtfmdejilhbankaaGreat

namespace Go.Proofs.YtfmdejilhbankaaGreat
open Go.RowKit

theorem besideB_comm (a b : Bx) : besideB a b = besideB b a := by
  rw [Bool.eq_iff_iff]
  unfold besideB inB
  simp only [Bool.and_eq_true, decide_eq_true_eq]
  omega
theorem closeB_comm (a b : Bx) : closeB a b = closeB b a := by
  unfold closeB nearB
  rw [besideB_comm a b, Bool.and_comm (boxB a) (boxB b), Bool.and_assoc (besideB b a), Bool.and_assoc (besideB b a), Bool.and_comm (decide (a.in_ ≤ b.out))]
theorem meetStep_some (l m : List Bx) (st : Cl) (p : Nat × Nat) : (meetStep l m st p).isSome = (st.isSome || closeB (bxAt l p.1) (bxAt m p.2)) := by
  unfold meetStep
  cases st with
  | none => cases h : closeB (bxAt l p.1) (bxAt m p.2) <;> simp
  | some x =>
    cases h : closeB (bxAt l p.1) (bxAt m p.2)
    · simp
    · simp only [Bool.true_and, Option.isSome_some, Bool.true_or]
      split <;> rfl
theorem meetFold_some (l m : List Bx) : ∀ (ps : List (Nat × Nat)) (st : Cl), (ps.foldl (meetStep l m) st).isSome = (st.isSome || ps.any fun p => closeB (bxAt l p.1) (bxAt m p.2))
  | [], st => by simp
  | p :: ps, st => by
    rw [List.foldl_cons, meetFold_some l m ps, meetStep_some, List.any_cons, Bool.or_assoc]
/-- One of these comes too near one of those. -/
def meetL (l m : List Bx) : Bool := l.any fun a => m.any fun b => closeB a b
theorem meetL_comm (l m : List Bx) : meetL l m = meetL m l := by
  rw [Bool.eq_iff_iff]
  simp only [meetL, List.any_eq_true]
  constructor
  · rintro ⟨a, ha, b, hb, h⟩
    exact ⟨b, hb, a, ha, by rw [closeB_comm]; exact h⟩
  · rintro ⟨a, ha, b, hb, h⟩
    exact ⟨b, hb, a, ha, by rw [closeB_comm]; exact h⟩
theorem pairsN_in {k n i j : Nat} (hi : i < n) (hj : j < k) : (i, j) ∈ pairsN k n := by
  induction n with
  | zero => omega
  | succ n ih =>
    by_cases h : i < n
    · exact List.mem_append_left _ (ih h)
    · obtain rfl : i = n := by omega
      exact List.mem_append_right _ (List.mem_map.2 ⟨j, List.mem_range.2 hj, rfl⟩)
theorem meetOf_some (l m : List Bx) : (meetOf l m (pairsN m.length l.length)).isSome = meetL l m := by
  unfold meetOf
  rw [meetFold_some, Bool.eq_iff_iff]
  simp only [Option.isSome_none, Bool.false_or, List.any_eq_true, meetL]
  constructor
  · rintro ⟨p, hp, h⟩
    obtain ⟨h1, h2⟩ := pairsN_mem hp
    refine ⟨l[p.1], List.getElem_mem _, m[p.2], List.getElem_mem _, ?_⟩
    rwa [bxAt_get (List.getElem?_eq_getElem h1), bxAt_get (List.getElem?_eq_getElem h2)] at h
  · rintro ⟨a, ha, b, hb, h⟩
    obtain ⟨i, hi⟩ := List.mem_iff_getElem?.1 ha
    obtain ⟨j, hj⟩ := List.mem_iff_getElem?.1 hb
    exact ⟨(i, j), pairsN_in (List.getElem?_eq_some_iff.1 hi).1 (List.getElem?_eq_some_iff.1 hj).1, by rw [bxAt_get hi, bxAt_get hj]; exact h⟩
theorem meetTB_some (t u : Tb) : (meetTB t u).isSome = (tubeB t && tubeB u && meetL t.l u.l) := by
  unfold meetTB
  cases tubeB t <;> cases tubeB u <;> simp [meetOf_some]

abbrev PKey := Int × Int × Int × Int × List Stp
/-- The tube of a path from a tick on, under a name. -/
abbrev tubK (nm : ByteArray) (k : PKey) : Tb := pathTb nm k.1 k.2.1 k.2.2.1 k.2.2.2.1 k.2.2.2.2
abbrev cutK (nm : ByteArray) (k : PKey) (now : Int) (a : Option Addr) (b o c : Nat) : Tb := ⟨cutNm (tubK nm k), a, b, o, c, cutBx (tubK nm k) now⟩
def okK (k : PKey) (now : Int) : Bool := tubeB (cutK nmA k now none 0 0 0)
def meetsK (k m : PKey) (now : Int) : Bool := okK k now && okK m now && meetL (cutBx (tubK nmA k) now) (cutBx (tubK nmA m) now)
theorem meetsK_comm (k m : PKey) (now : Int) : meetsK k m now = meetsK m k now := by
  unfold meetsK
  rw [meetL_comm, Bool.and_comm (okK k now)]
theorem tubeB_same {t u : Tb} (h1 : nameB t.nm = nameB u.nm) (h2 : t.l = u.l) : tubeB t = tubeB u := by
  obtain ⟨n, a, b, o, c, l⟩ := t
  obtain ⟨n', a', b', o', c', l'⟩ := u
  simp only at h1 h2
  subst h2
  unfold tubeB
  simp only [h1]
theorem okK_name {nm : ByteArray} (h : nameB nm = true) (k : PKey) (now : Int) (a : Option Addr) (b o c : Nat) : tubeB (cutK nm k now a b o c) = okK k now := by
  refine tubeB_same ?_ (cutBx_name h nameA k.1 k.2.1 k.2.2.1 k.2.2.2.1 now k.2.2.2.2)
  have et : tubeB (tubK nm k) = tubeB (tubK nmA k) := tubeB_same (by rw [show (tubK nm k).nm = nm from rfl, h]; exact nameA.symm) rfl
  show nameB (cutNm (tubK nm k)) = nameB (cutNm (tubK nmA k))
  unfold cutNm
  rw [et]
  cases tubeB (tubK nmA k)
  · rfl
  · simp only [if_true]
    rw [h]
    exact nameA.symm
theorem meets_name {nm nm' : ByteArray} (h : nameB nm = true) (h' : nameB nm' = true) (k m : PKey) (now : Int) (a a' : Option Addr) (b o c b' o' c' : Nat) : (meetTB (cutK nm k now a b o c) (cutK nm' m now a' b' o' c')).isSome = meetsK k m now := by
  rw [meetTB_some, okK_name h, okK_name h']
  unfold meetsK
  rw [show (cutK nm k now a b o c).l = cutBx (tubK nm k) now from rfl, show (cutK nm' m now a' b' o' c').l = cutBx (tubK nm' m) now from rfl, cutBx_name h nameA, cutBx_name h' nameA]
end Go.Proofs.YtfmdejilhbankaaGreat

namespace Go.Proofs.YtfmdejilhbankaaGreat
open Go.RowKit

set_option maxRecDepth 20000 in
set_option maxHeartbeats 1000000 in
theorem flySpansS_any (q s fr b : Int) (a : Option Addr) (b0 o cap : Nat) (l : List Stp) (w : World) (hl : l.length ≤ 1048576) (hs : StepsAt w a b0 o l) :
    Calls Tryz.prog 61 #[.agg #[.int .i64 q, .int .i64 s, .slice a l.length cap, .int .i64 fr, .int .i64 b]] w
      fun e w' => ∃ v, e = .returned (.tuple #[v, .bool (flyB q s fr b l)]) ∧ w'.ownsRow w.heap.size 157 2 v (flyL q s fr b l).length (spanCells (flyL q s fr b l)) ∧ Below w.heap.size w w' := by
  have hB0 := BoxP.new w q s fr b (.slice a l.length cap) 43
  cases hp : pathB q s fr b l with
  | false =>
    have e1 : flyB q s fr b l = false := by unfold flyB; rw [hp]; rfl
    have e2 : flyL q s fr b l = [] := by unfold flyL; rw [hp]; rfl
    rw [e1, e2]
    go_enter Tryz.func61, Tryz.ntmps61
    go_wp2_with fail
    refine (pathS_any _ _ _ _ _ b0 o _ _ _ hl (hs.alloc _)).mono ?_
    rw [hp]
    rintro e w1 ⟨rfl, hb1⟩
    have hB1 := hB0.below hb1
    go_wp2
    go_ret2
    exact ⟨_, rfl, owns_empty hB1.old.size, hB1.old.alloc hB1.old.size _⟩
  | true =>
    have e1 : flyB q s fr b l = spanB q s fr b l := by unfold flyB; rw [hp]; rfl
    have e2 : flyL q s fr b l = spansL q s fr b l := by unfold flyL; rw [hp]; rfl
    rw [e1, e2]
    go_enter Tryz.func61, Tryz.ntmps61
    go_wp2_with fail
    refine (pathS_any _ _ _ _ _ b0 o _ _ _ hl (hs.alloc _)).mono ?_
    rw [hp]
    rintro e w1 ⟨rfl, hb1⟩
    have hB1 := hB0.below hb1
    have p0 := hB1.p0
    have p1 := hB1.p1
    have p2 := hB1.p2
    have p3 := hB1.p3
    have p4 := hB1.p4
    have z1 := hB1.lt
    clear hb1
    go_wp2_with fail
    refine (spansS_wide _ _ _ _ _ b0 o _ _ _ (hs.below hB1.old hs.lt) (Wide.of hp)).mono ?_
    rintro e w2 ⟨v, rfl, hown, hb2⟩
    go_wp2
    go_ret2
    exact ⟨_, rfl, ⟨hown.1, hown.2.imp id fun ⟨g, cap, cur, h1, h2, h3⟩ => ⟨g, cap, cur, h1, by omega, h3⟩⟩, hB1.old.trans (hb2.mono hB1.old.size)⟩
end Go.Proofs.YtfmdejilhbankaaGreat

namespace Go.Proofs.YtfmdejilhbankaaGreat
open Go.RowKit

/-- Rows of spans and of boxes lie apart. -/
theorem span_box_apart {w : World} {base base' n n' : Nat} {v v' : Value} {xs xs' : List Value} (h : w.ownsRow base 157 2 v n xs) (h' : w.ownsRow base' 132 6 v' n' xs') : ∀ k, v.ownBlock = some k → v'.ownBlock ≠ some k := by
  intro k hk hk'
  rcases h.2 with ⟨rfl, _⟩ | ⟨g, cap, cur, rfl, _, hh, _⟩
  · simp [Value.ownBlock] at hk
  rcases h'.2 with ⟨rfl, _⟩ | ⟨g', cap', cur', rfl, _, hh', _⟩
  · simp [Value.ownBlock] at hk'
  simp [Value.ownBlock] at hk hk'
  subst hk
  subst hk'
  rw [hh] at hh'
  have := congrArg (fun o => match o with | some (Obj.cells _ t _) => t | _ => 0) hh'
  simp at this
structure TbS (w wr : World) (q s fr b : Int) (vp vs : Value) (F : List (Int × Int)) (v : Value) (m : List Bx) : Prop where
  old : Below w.heap.size w wr
  pa : BoxP w wr q s fr b vp
  sp : wr.ownsRow (w.heap.size + 1) 157 2 vs F.length (spanCells F)
  own : wr.ownsRow (w.heap.size + 1) 132 6 v m.length (rowC m)
section
variable {w wr w' : World} {q s fr b : Int} {vp vs v : Value} {F : List (Int × Int)} {m : List Bx}
theorem TbS.keep (h : TbS w wr q s fr b vp vs F v m) (hb : Below wr.heap.size wr w') : TbS w w' q s fr b vp vs F v m :=
  ⟨h.old.trans (hb.mono h.old.size), h.pa.below hb, owns_below h.sp hb, owns_below h.own hb⟩
theorem TbS.push {v7 : Value} {t : Bx} (h : TbS w wr q s fr b vp vs F v m) (hg : wr.grownBy w' v.ownBlock) (ho : w'.ownsRow (w.heap.size + 1) 132 6 v7 (m.length + 1) (rowC m ++ t.cells)) : TbS w w' q s fr b vp vs F v7 (m ++ [t]) := by
  have hbase := owns_base h.own
  refine ⟨h.old.grown hg h.old.size (fun k e => by have := hbase k e; omega), h.pa.keep ((Below.refl _ _).grown hg h.pa.lt (fun k e => by have := hbase k e; omega)), ?_, ?_⟩
  · refine h.sp.kept hg ?_
    cases e : vs.ownBlock with
    | none => exact Or.inl rfl
    | some k => exact Or.inr (fun e2 => span_box_apart h.sp h.own k e e2.symm)
  · rw [rowC_snocF, List.length_append]
    exact ho
end

set_option maxRecDepth 20000 in
set_option maxHeartbeats 4000000 in
theorem flyTubeS_any (q s fr b : Int) (a : Option Addr) (b0 o cap : Nat) (l : List Stp) (w : World) (hl : l.length ≤ 1048576) (hs : StepsAt w a b0 o l) :
    Calls Tryz.prog 128 #[.agg #[.int .i64 q, .int .i64 s, .slice a l.length cap, .int .i64 fr, .int .i64 b]] w
      fun e w' => ∃ v, e = .returned v ∧ w'.ownsRow w.heap.size 132 6 v (tubeL q s fr b l).length (rowC (tubeL q s fr b l)) ∧ Below w.heap.size w w' := by
  obtain ⟨i0, hi, hz0, hz1, hz2⟩ := info_parts fbox_info
  have hr := fly_range q s fr b l
  have P0 := (BoxP.new w q s fr b (.slice a l.length cap) 43).below ((Below.refl _ _).alloc (Nat.le_refl _) (.cells #[] 132))
  have E0 := owns_empty (w := w.alloc (.cells #[.int .i64 q, .int .i64 s, .slice a l.length cap, .int .i64 fr, .int .i64 b] 43)) (base := w.heap.size + 1) (e := 132) (size := 6) (by simp)
  rw [World.size_alloc] at E0
  have B0 : Below w.heap.size w ((w.alloc (.cells #[.int .i64 q, .int .i64 s, .slice a l.length cap, .int .i64 fr, .int .i64 b] 43)).alloc (.cells #[] 132)) := ((Below.refl _ _).alloc (Nat.le_refl _) _).alloc (by simp) _
  go_enter Tryz.func128, Tryz.ntmps128
  go_wp2_with fail
  refine (flySpansS_any _ _ _ _ _ b0 o _ _ _ hl (hs.below B0 hs.lt)).mono ?_
  rintro e w1 ⟨vs, rfl, hsp, hb1⟩
  have P1 := P0.below hb1
  have B1 : Below w.heap.size w w1 := B0.trans (hb1.mono (by simp; omega))
  have E1 := owns_below E0 hb1
  have p2 := P1.p2
  cases hf : flyB q s fr b l with
  | false =>
    have G : Hid (tubeL q s fr b l = []) := by show _ = _; unfold tubeL; rw [hf]; rfl
    go_wp2
    go_loopw [3, 6] (fun v x wr => v = .slice (some ⟨w.heap.size + 1, 0, none⟩) 0 0 ∧ x = .int .i64 0 ∧ wr = w1) (fun _ _ _ => 0)
    case atStart => exact ⟨rfl, rfl, rfl⟩
    case round =>
      obtain ⟨rfl, rfl, rfl⟩ := hrel
      go_wp2
      go_ret
      exact ⟨_, rfl, by rw [G.out]; exact ⟨E1.1, E1.2.imp id fun ⟨g, cap, cur, h1, h2, h3⟩ => ⟨g, cap, cur, h1, by omega, h3⟩⟩, B1⟩
  | true =>
    have G : Hid (tubeL q s fr b l = tubeTo (flyL q s fr b l) l l.length) := by show _ = _; unfold tubeL; rw [hf]; rfl
    have hF := flyL_len hf
    have h40 := fly_len hf
    obtain ⟨g, gc, rfl, hg1, hg2⟩ := owns_some hsp (by omega)
    rw [hF]
    generalize flyL q s fr b l = F at *
    have T1 : TbS w w1 q s fr b (.slice a l.length cap) (.slice (some ⟨g, 0, none⟩) F.length gc) F (.slice (some ⟨w.heap.size + 1, 0, none⟩) 0 0) (tubeTo F l 0) := ⟨B1, P1, ⟨hsp.1, hsp.2.imp id fun ⟨g, cap, cur, h1, h2, h3⟩ => ⟨g, cap, cur, h1, Nat.le_trans (by simp) h2, h3⟩⟩, E1⟩
    clear P0 P1 p2 hb1 B1 hsp E0 E1 B0 hg1 hg2
    go_wp2
    go_loopw [3, 6] (fun v x wr => ∃ k : Nat, k ≤ l.length ∧ x = .int .i64 k ∧ TbS w wr q s fr b (.slice a l.length cap) (.slice (some ⟨g, 0, none⟩) F.length gc) F v (tubeTo F l k)) (fun _ x _ => l.length - (intOf x).toNat)
    case atStart => exact ⟨0, Nat.zero_le _, rfl, T1⟩
    case round =>
      clear T1
      obtain ⟨k, hk, rfl, hT⟩ := hrel
      have p2 := hT.pa.p2
      by_cases hlt : k < l.length
      · obtain ⟨t, ht⟩ : ∃ t, l[k]? = some t := ⟨l[k], List.getElem?_eq_getElem hlt⟩
        have hne : l ≠ [] := by intro e; subst e; simp at hlt
        obtain rfl := hs.here hne
        obtain ⟨c0, c1, c2, c3, c4, c5, c6⟩ := (hs.below hT.old hs.lt).seven ht
        have s0 := (hT.sp.cellAt (k * 2) (by omega)).trans (spanCells_two' (F := F) (k := k) (by omega)).1
        have s1 := (hT.sp.cellAt ((k + 1) * 2 + 1) (by omega)).trans (spanCells_two' (F := F) (k := k + 1) (by omega)).2
        have hgr := owns_lt hT.sp g rfl
        have k0 : (0 : Int) ≤ (k : Int) := by omega
        have k1 : (k : Int) < (l.length : Int) := by omega
        have k2 : (k : Int) + 1 < (l.length : Int) + 1 := by omega
        have k3 : (0 : Int) ≤ (k : Int) + 1 := by omega
        have k4 : (k : Int) < (l.length : Int) + 1 := by omega
        have wk : IntKind.i64.wrap ((k : Int) + 1) = (k : Int) + 1 := by rw [IntKind.wrap_i64]; omega
        have wk2 : wrap64 ((k : Int) + 1) = (k : Int) + 1 := by unfold wrap64; omega
        have k5 : (k : Int) + 1 ≤ (l.length : Int) := by omega
        obtain ⟨hh1, hh2⟩ := hr (k + 1)
        have HB : Hid (tubeTo F l (k + 1) = tubeTo F l k ++ [⟨t.x, t.y, t.lo, t.hi, (F.getD k (0, 0)).1, (F.getD (k + 1) (0, 0)).2 - 1⟩]) := by
          show _ = _
          rw [tubeTo_succ]
          unfold tubeAt
          rw [List.getD_eq_getElem?_getD (l := l), ht]
          rfl
        have hlen := tubeTo_length F l k
        clear ht
        generalize hi1 : (F.getD k (0, 0)).1 = in1 at *
        generalize ho1 : (F.getD (k + 1) (0, 0)).2 = out1 at *
        clear hi1 ho1
        have wr1 : IntKind.i64.wrap (out1 - 1) = out1 - 1 := by rw [IntKind.wrap_i64]; omega
        go_wp2
        have T3 := ((hT.keep ((Below.refl wr.heap.size wr).alloc (Nat.le_refl _) (.cells #[.int .i64 t.x, .int .i64 t.y, .int .i64 t.lo, .int .i64 t.hi, .int .i64 t.fr, .int .i64 t.by_, .bool t.ho] 102))).keep ((Below.refl _ _).alloc (Nat.le_refl _) (.cells #[.int .i64 t.x, .int .i64 t.y, .int .i64 t.lo, .int .i64 t.hi, .int .i64 in1, .int .i64 (out1 - 1)] 132))).keep ((Below.refl _ _).drew)
        have hnw : ∀ (j : Nat) (u : Value), (Bx.cells ⟨t.x, t.y, t.lo, t.hi, in1, out1 - 1⟩)[j]? = some u → (((wr.alloc (.cells #[.int .i64 t.x, .int .i64 t.y, .int .i64 t.lo, .int .i64 t.hi, .int .i64 t.fr, .int .i64 t.by_, .bool t.ho] 102)).alloc (.cells #[.int .i64 t.x, .int .i64 t.y, .int .i64 t.lo, .int .i64 t.hi, .int .i64 in1, .int .i64 (out1 - 1)] 132)).drew).cell? ((⟨wr.heap.size + 1, 0, none⟩ : Addr).add j) = some u := by
          intro j u hj
          have := six_newF (wr.alloc (.cells #[.int .i64 t.x, .int .i64 t.y, .int .i64 t.lo, .int .i64 t.hi, .int .i64 t.fr, .int .i64 t.by_, .bool t.ho] 102)) ⟨t.x, t.y, t.lo, t.hi, in1, out1 - 1⟩ 132 j u hj
          rw [World.size_alloc] at this
          exact this
        have hvb := owns_lt hT.own
        have hNw := hT.pa.lt
        have hap := span_box_apart hT.sp hT.own g rfl
        go_region_held3 (fun w' => w'.cell? ⟨wr.heap.size, 0, none⟩ = some (.int .i64 t.x) ∧ w'.cell? ⟨wr.heap.size, 1, none⟩ = some (.int .i64 t.y) ∧ w'.cell? ⟨wr.heap.size, 2, none⟩ = some (.int .i64 t.lo) ∧ w'.cell? ⟨wr.heap.size, 3, none⟩ = some (.int .i64 t.hi) ∧ w'.cell? ⟨g, k * 2, none⟩ = some (.int .i64 in1) ∧ w'.cell? ⟨g, (k + 1) * 2 + 1, none⟩ = some (.int .i64 out1))
          (simp [go_sem, World.cell?_alloc_lt, *])
          (first
            | (refine wp_append_own _ (.tmp 29) (.tmp 51) 129 rfl (w.heap.size + 1) 132 i0 (.agg #[.int .i64 0, .int .i64 0, .int .i64 0, .int .i64 0, .int .i64 0, .int .i64 0]) 6 48 Tryz.underlying129 hi hz0 hz1 hz2 rfl (by decide) u3 _ _ rfl T3.own ⟨wr.heap.size + 1, 0, none⟩ 1 1 (Bx.cells ⟨t.x, t.y, t.lo, t.hi, in1, out1 - 1⟩) rfl rfl hnw (by simp [Value.oneCell']) (by unfold maxLen; omega) (by omega) (by simp; omega) ?_; intro v7 w7 hown7 hgrow7 hnil7; have e0 : ∀ j, w7.cell? ⟨wr.heap.size, j, none⟩ = _ := (fun j => World.cell?_of_block (a := ⟨wr.heap.size, j, none⟩) (hgrow7.block wr.heap.size (by simp; omega) (fun e => by have := hvb _ e.symm; omega))); have e1 : ∀ j, w7.cell? ⟨g, j, none⟩ = _ := (fun j => World.cell?_of_block (a := ⟨g, j, none⟩) (hgrow7.block g (by simp; omega) (fun e => hap e.symm)))))
        go_wp2
        go_roundw
        case rel => exact ⟨k + 1, by omega, by go_num, by rw [HB.out]; exact T3.push hgrow7 hown7⟩
        case measure => simp [intOf]; omega
      · obtain rfl : k = l.length := by omega
        go_wp2
        go_ret
        obtain ⟨av, cv, rfl⟩ : ∃ a c, u3 = .slice a (tubeTo F l l.length).length c := by
          rcases hT.own.2 with ⟨rfl, h0⟩ | ⟨g, cap, cur, rfl, _⟩
          · exact ⟨none, 0, by rw [h0]⟩
          · exact ⟨_, _, rfl⟩
        refine ⟨_, rfl, ?_, hT.old⟩
        rw [G.out]
        exact ⟨hT.own.1, hT.own.2.imp id fun ⟨g, cap, cur, h1, h2, h3⟩ => ⟨g, cap, cur, h1, by omega, h3⟩⟩
end Go.Proofs.YtfmdejilhbankaaGreat

namespace Go.Proofs.YtfmdejilhbankaaGreat
open Go.RowKit

/-- What lies while the specification lays a path's tube: all that lay, the answer's block, the tube under its name, the boxes up to now. -/
structure LsW (w wr : World) (N : Nat) (nm : ByteArray) (c : Option Addr) (cb : Nat) (T : List Bx) (v : Value) (m : List Bx) : Prop where
  old : Below w.heap.size w wr
  res : wr.heap[w.heap.size + 1]? = some (.cells #[.string ⟨#[]⟩, .slice none 0 0] 96 (0, 0))
  out : wr.heap[w.heap.size + 1 + 1]? = some (.cells #[.string nm, v] 96 (0, 0))
  lt : N ≤ wr.heap.size
  tb : BoxesAt wr c cb 0 T
  tbN : T ≠ [] → cb < N ∧ w.heap.size + 1 + 1 < cb
  own : wr.ownsRow N 133 6 v m.length (rowC m)
section
variable {w wr w' : World} {N cb : Nat} {nm : ByteArray} {c : Option Addr} {T m : List Bx} {v : Value}
theorem LsW.keep (h : LsW w wr N nm c cb T v m) (hb : Below wr.heap.size wr w') : LsW w w' N nm c cb T v m :=
  ⟨h.old.trans (hb.mono h.old.size), (hb.block _ (lt_of_block h.res)).trans h.res, (hb.block _ (lt_of_block h.out)).trans h.out, Nat.le_trans h.lt hb.size, h.tb.below hb h.tb.lt, h.tbN, owns_below h.own hb⟩
theorem LsW.grow (h : LsW w wr N nm c cb T v m) (hN : w.heap.size + 1 + 1 < N) (hg : wr.grownBy w' v.ownBlock) : w'.heap[w.heap.size + 1 + 1]? = some (.cells #[.string nm, v] 96 (0, 0)) :=
  (hg.block _ (lt_of_block h.out) (fun e => by have := owns_base h.own _ e.symm; omega)).trans h.out
theorem LsW.push {v7 : Value} {t : Bx} (h : LsW w wr N nm c cb T v m) (hN : w.heap.size + 1 + 1 < N) (hg : wr.grownBy w' v.ownBlock) (ho : w'.ownsRow N 133 6 v7 (m.length + 1) (rowC m ++ t.cells)) :
    LsW w (w'.setCell ⟨w.heap.size + 1 + 1, 1, none⟩ v7) N nm c cb T v7 (m ++ [t]) := by
  have hbase := owns_base h.own
  refine ⟨?_, ?_, ?_, ?_, ?_, h.tbN, ?_⟩
  · exact (h.old.grown hg h.old.size (fun k e => by have := hbase k e; omega)).setCell (by show _ ≤ w.heap.size + 1 + 1; omega) _
  · rw [heap_setCell_other _ _ _ _ (by show w.heap.size + 1 ≠ w.heap.size + 1 + 1; omega)]
    exact (hg.block _ (lt_of_block h.res) (fun e => by have := hbase _ e.symm; omega)).trans h.res
  · exact blk2_set1 (h.grow hN hg) v7
  · have := hg.size
    have := h.lt
    simp
    omega
  · have hgr := h.tb.grown hg (fun hne e => by have := hbase _ e.symm; have := h.tbN hne; omega)
    refine ⟨hgr.here, fun hne => by have := hgr.lt hne; simpa [World.setCell] using this, fun i s hi j u hu => ?_⟩
    have hne : T ≠ [] := by intro e; subst e; simp at hi
    have := h.tbN hne
    rw [World.cell?_setCell_other _ _ _ _ (by intro e; have := congrArg Addr.block e; simp at this; omega)]
    exact hgr.cell i s hi j u hu
  · rw [rowC_snoc, List.length_append]
    exact owns_set ho (fun k e => by have := owns_base ho k e; omega) _ _
end

set_option maxRecDepth 20000 in
set_option maxHeartbeats 4000000 in
theorem l23Tube_any (nm : ByteArray) (q s fr b : Int) (a : Option Addr) (b0 o cap : Nat) (l : List Stp) (w : World) (hl : l.length ≤ 1048576) (hs : StepsAt w a b0 o l) :
    Calls Tryz.prog 95 #[.string nm, .agg #[.int .i64 q, .int .i64 s, .slice a l.length cap, .int .i64 fr, .int .i64 b]] w
      fun e w' => ∃ v, e = .returned (.agg #[.string nm, v]) ∧ w'.ownsRow w.heap.size 133 6 v (tubeL q s fr b l).length (rowC (tubeL q s fr b l)) ∧ Below w.heap.size w w' := by
  obtain ⟨i0, hi, hz0, hz1, hz2⟩ := info_parts pbox_info
  have B0 : Below w.heap.size w (((w.alloc (.cells #[.int .i64 q, .int .i64 s, .slice a l.length cap, .int .i64 fr, .int .i64 b] 43)).alloc (.cells #[.string ⟨#[]⟩, .slice none 0 0] 96)).alloc (.cells #[.string nm, .slice none 0 0] 96)) := bel3 _ _ _
  have R0 : (((w.alloc (.cells #[.int .i64 q, .int .i64 s, .slice a l.length cap, .int .i64 fr, .int .i64 b] 43)).alloc (.cells #[.string ⟨#[]⟩, .slice none 0 0] 96)).alloc (.cells #[.string nm, .slice none 0 0] 96)).heap[w.heap.size + 1]? = some (.cells #[.string ⟨#[]⟩, .slice none 0 0] 96 (0, 0)) := by
    refine (Below.heap_alloc _ _ _ (by simp)).trans ?_
    have := heap_alloc_new (w.alloc (.cells #[.int .i64 q, .int .i64 s, .slice a l.length cap, .int .i64 fr, .int .i64 b] 43)) (.cells #[.string ⟨#[]⟩, .slice none 0 0] 96)
    rwa [World.size_alloc] at this
  have O0 : (((w.alloc (.cells #[.int .i64 q, .int .i64 s, .slice a l.length cap, .int .i64 fr, .int .i64 b] 43)).alloc (.cells #[.string ⟨#[]⟩, .slice none 0 0] 96)).alloc (.cells #[.string nm, .slice none 0 0] 96)).heap[w.heap.size + 1 + 1]? = some (.cells #[.string nm, .slice none 0 0] 96 (0, 0)) := by
    have := heap_alloc_new ((w.alloc (.cells #[.int .i64 q, .int .i64 s, .slice a l.length cap, .int .i64 fr, .int .i64 b] 43)).alloc (.cells #[.string ⟨#[]⟩, .slice none 0 0] 96)) (.cells #[.string nm, .slice none 0 0] 96)
    rwa [World.size_alloc, World.size_alloc] at this
  have ht40 := tubeL_len q s fr b l
  go_enter Tryz.func95, Tryz.ntmps95
  go_wp2_with fail
  refine (flyTubeS_any q s fr b a b0 o cap l _ hl (hs.below B0 hs.lt)).mono ?_
  rintro e w1 ⟨v1, rfl, ho1, hb1⟩
  obtain ⟨c1, g1, k1, rfl, R1⟩ := owns_rowB ho1
  have L1 : LsW w w1 w1.heap.size nm c1 g1 (tubeL q s fr b l) (.slice none 0 0) ((tubeL q s fr b l).take 0) :=
    ⟨B0.trans (hb1.mono B0.size), (hb1.block _ (lt_of_block R0)).trans R0, (hb1.block _ (lt_of_block O0)).trans O0, Nat.le_refl _, R1.at_, fun hne => ⟨R1.at_.lt hne, by have := R1.base hne; simp at this; omega⟩, World.ownsRow_nil _ _ _ _⟩
  have hN : w.heap.size + 1 + 1 < w1.heap.size := lt_of_block L1.out
  clear B0 R0 O0 ho1 hb1 R1
  obtain ⟨T, hTe⟩ : ∃ T, tubeL q s fr b l = T := ⟨_, rfl⟩
  rw [hTe] at L1 ht40 ⊢
  have HTE : Hid (tubeL q s fr b l = T) := hTe
  clear hTe
  go_wp2
  generalize w1.heap.size = N at *
  go_loopw [7] (fun x wr => ∃ (k : Nat) (v : Value), k ≤ T.length ∧ x = .int .i64 k ∧ LsW w wr N nm c1 g1 T v (T.take k)) (fun x _ => T.length - (intOf x).toNat)
  case atStart => exact ⟨0, _, Nat.zero_le _, rfl, L1⟩
  case round =>
    clear L1
    obtain ⟨k, v, hk, rfl, hT⟩ := hrel
    by_cases hlt : k < T.length
    · obtain ⟨t, ht⟩ : ∃ t, T[k]? = some t := ⟨T[k], List.getElem?_eq_getElem hlt⟩
      have hne : T ≠ [] := by intro e; subst e; simp at hlt
      obtain rfl := hT.tb.here hne
      obtain ⟨c0, c1, c2, c3, c4, c5⟩ := hT.tb.six ht
      simp only [Nat.zero_add] at c0 c1 c2 c3 c4 c5
      have k0 : (0 : Int) ≤ (k : Int) := by omega
      have k1' : (k : Int) < (T.length : Int) := by omega
      have HB : Hid (T.take (k + 1) = T.take k ++ [t]) := by show _ = _; rw [List.take_add_one, ht]; rfl
      have hlen : (T.take k).length ≤ 40 := by rw [List.length_take]; omega
      have HLK : Hid ((T.take k).length = k) := by show _ = _; rw [List.length_take]; omega
      have C1 := hT.keep (bel1 (.cells #[.int .i64 t.x, .int .i64 t.y, .int .i64 t.lo, .int .i64 t.hi, .int .i64 t.in_, .int .i64 t.out] 132))
      obtain ⟨u0, u1, uf⟩ := blk2 C1.out
      have C2 := C1.keep (bel1 (.cells #[.int .i64 t.x, .int .i64 t.y, .int .i64 t.lo, .int .i64 t.hi, .int .i64 t.in_, .int .i64 t.out] 133))
      have zN := hT.lt
      have na := old_allocC (lt_of_block hT.out)
      clear ht
      go_wp2_with (at_builtin; refine wpList_append_own _ rfl (.tmp 24) (.tmp 38) 94 rfl N 133 i0 (.agg #[.int .i64 0, .int .i64 0, .int .i64 0, .int .i64 0, .int .i64 0, .int .i64 0]) 6 48 Tryz.underlying94 hi hz0 hz1 hz2 rfl (by decide) v _ _ rfl C2.own ⟨wr.heap.size + 1, 0, none⟩ 1 1 (Bx.cells t) rfl rfl (six_new2P wr t _ _) (by simp [Value.oneCell']) (by unfold maxLen; omega) (by omega) (by simp; omega) ?_; intro v7 w7 hown7 hgrow7 hnil7; obtain ⟨p0, p1, pf⟩ := blk2 (C2.grow hN hgrow7); obtain ⟨a7, c7, rfl⟩ := owns_slice hown7)
      go_roundw
      case rel =>
        have h8 := C2.push hN hgrow7 hown7
        rw [HLK.out] at h8
        exact ⟨k + 1, _, by omega, by go_num, by rw [HB.out]; exact h8⟩
      case measure => simp [intOf]; omega
    · obtain rfl : k = T.length := by omega
      rw [List.take_length] at hT
      obtain ⟨va, vc, rfl⟩ := owns_slice hT.own
      obtain ⟨u0, u1, uf⟩ := blk2 hT.out
      obtain ⟨r0, r1, rf⟩ := blk2 hT.res
      go_wp2
      refine bodyPost_ret (v := .agg #[.string nm, .slice va T.length vc]) (by simp [results, Tryz.results95, go_sem, *]) rfl ⟨_, rfl, ?_, ?_⟩
      · refine owns_lower (base := N) ?_ (by omega)
        iterate 2 (refine owns_set ?_ (fun k e => by have := owns_base hT.own k e; omega) _ _)
        rw [HTE.out]
        exact hT.own
      · iterate 2 (refine Below.setCell ?_ (by simp) _)
        exact hT.old

set_option maxRecDepth 20000 in
theorem linkTubeS_any (nm : ByteArray) (q s fr b : Int) (a : Option Addr) (b0 o cap : Nat) (l : List Stp) (n : Int) (w : World) (hl : l.length ≤ 1048576) (hs : StepsAt w a b0 o l) :
    Calls Tryz.prog 66 #[.string nm, .agg #[.int .i64 q, .int .i64 s, .slice a l.length cap, .int .i64 fr, .int .i64 b], .int .i64 n] w
      fun e w' => ∃ v, e = .returned (.agg #[.string (cutNm (pathTb nm q s fr b l)), v]) ∧ w'.ownsRow w.heap.size 133 6 v (cutBx (pathTb nm q s fr b l) n).length (rowC (cutBx (pathTb nm q s fr b l) n)) ∧ Below w.heap.size w w' := by
  have B0 : Below w.heap.size w ((w.alloc (.cells #[.int .i64 q, .int .i64 s, .slice a l.length cap, .int .i64 fr, .int .i64 b] 43)).alloc (.cells #[.string ⟨#[]⟩, .slice none 0 0] 96)) := bel2 _ _
  have R0 : ((w.alloc (.cells #[.int .i64 q, .int .i64 s, .slice a l.length cap, .int .i64 fr, .int .i64 b] 43)).alloc (.cells #[.string ⟨#[]⟩, .slice none 0 0] 96)).heap[w.heap.size + 1]? = some (.cells #[.string ⟨#[]⟩, .slice none 0 0] 96 (0, 0)) := by
    have := heap_alloc_new (w.alloc (.cells #[.int .i64 q, .int .i64 s, .slice a l.length cap, .int .i64 fr, .int .i64 b] 43)) (.cells #[.string ⟨#[]⟩, .slice none 0 0] 96)
    rwa [World.size_alloc] at this
  have ht40 := tubeL_len q s fr b l
  go_enter Tryz.func66, Tryz.ntmps66
  go_wp2_with fail
  refine (l23Tube_any nm q s fr b a b0 o cap l _ hl (hs.below B0 hs.lt)).mono ?_
  rintro e w1 ⟨v1, rfl, ho1, hb1⟩
  obtain ⟨c1, g1, k1, rfl, R1⟩ := owns_rowB ho1
  have R2 := (hb1.block _ (lt_of_block R0)).trans R0
  have B1 := B0.trans (hb1.mono B0.size)
  clear B0 R0 ho1 hb1
  go_wp2_with fail
  refine (cutS_any nm c1 g1 0 k1 _ n _ (by omega) R1.at_).mono ?_
  rintro e w3 ⟨v3, rfl, ho3, hb3⟩
  have e1 : cutNm ⟨nm, c1, g1, 0, k1, tubeL q s fr b l⟩ = cutNm (pathTb nm q s fr b l) := rfl
  have e2 : cutBx ⟨nm, c1, g1, 0, k1, tubeL q s fr b l⟩ n = cutBx (pathTb nm q s fr b l) n := rfl
  rw [e1]
  rw [e2] at ho3
  clear e1 e2
  have R3 := (hb3.block _ (lt_of_block R2)).trans R2
  obtain ⟨r0, r1, rf⟩ := blk2 R3
  obtain ⟨va, vc, rfl⟩ := owns_slice ho3
  have z1 := lt_of_block R2
  have z2 := B1.size
  have B3 := B1.trans (hb3.mono B1.size)
  clear R1 R2 hb3 B1
  go_wp2
  refine bodyPost_ret (v := .agg #[.string (cutNm (pathTb nm q s fr b l)), .slice va (cutBx (pathTb nm q s fr b l) n).length vc]) (by simp [results, Tryz.results66, go_sem, *]) rfl ⟨_, rfl, ?_, ?_⟩
  · refine owns_lower (base := w1.heap.size) ?_ (by omega)
    iterate 2 (refine owns_set ?_ (fun k e => by have := owns_base ho3 k e; omega) _ _)
    exact ho3
  · iterate 2 (refine Below.setCell ?_ (by simp) _)
    exact B3
end Go.Proofs.YtfmdejilhbankaaGreat
