/- Joined texts: PathAns, CloneS, ShiftImpl, ShiftMath, ShiftImpl2, SharedData, WfPath, RestData, P7Law, Meth, SpanWin, SeqAll, WalkData. -/
import Derived.WalkKit
import Derived.WalkSpells
import Derived.Laws.StructEq
import Derived.BigQuiet
import Derived.RangeFuncNested
import Derived.RangeFuncBound
import Derived.RangeFuncCalls
import Derived.RangeFuncLeaves
import Derived.Shelf.Abstract
import Derived.Shelf.RegionOpen
import Derived.OwnWalkIn
import Derived.TacticsInMore
import Derived.LoopNIn
import Derived.LoopIn
import Derived.Stop.RegionWithIn
import Derived.Test.YtcheigbpoopjgaaRows
import Derived.Test.YtcheigbpoopjgaaJ03
import Derived.Test.YtcheigbpoopjgaaJ04
import Derived.Test.YtcheigbpoopjgaaJ05
import Derived.Test.YtcheigbpoopjgaaJ02
import Derived.Test.YtcheigbpoopjgaaJ01
import Derived.Test.YtcheigbpoopjgaaShDraw
import Derived.Test.YtcheigbpoopjgaaJ06
namespace Go.Proofs.Ytcheigbpoopjgaa
open Go.RowKit

/-- A path, and true; or nothing, and false. -/
structure Ans where
  q : Int
  s : Int
  fr : Int
  b : Int
  l : List Stp
  ok : Bool
def Ans.no : Ans := { q := 0, s := 0, fr := 0, b := 0, l := [], ok := false }
/-- What is answered: in memory of the call's own. -/
def Gives (A : Ans) (w : World) (e : Ending) (w' : World) : Prop :=
  ∃ v, e = .returned (.tuple #[.agg #[.int .i64 A.q, .int .i64 A.s, v, .int .i64 A.fr, .int .i64 A.b], .bool A.ok]) ∧ w'.ownsRow w.heap.size 61 7 v A.l.length (stepCells A.l) ∧ Below w.heap.size w w'
theorem Gives.none {w w' : World} {e : Ending} (he : e = .returned (.tuple #[.agg #[.int .i64 0, .int .i64 0, .slice none 0 0, .int .i64 0, .int .i64 0], .bool false])) (hb : Below w.heap.size w w') : Gives .no w e w' :=
  ⟨_, he, World.ownsRow_nil _ _ _ _, hb⟩
end Go.Proofs.Ytcheigbpoopjgaa

namespace Go.Proofs.Ytcheigbpoopjgaa
open Go.RowKit

set_option maxRecDepth 20000 in
set_option maxHeartbeats 1000000 in
theorem cloneS_any (b0 o cap : Nat) (l : List Stp) (w : World) (hl0 : 1 ≤ l.length) (hl : l.length ≤ 1048576) (hs : StepsAt w (some ⟨b0, o, none⟩) b0 o l) :
    Calls Try.prog 73 #[.slice (some ⟨b0, o, none⟩) l.length cap] w
      fun e w' => ∃ g gc, e = .returned (.slice (some ⟨g, 0, none⟩) l.length gc) ∧ w'.ownsRow w.heap.size 61 7 (.slice (some ⟨g, 0, none⟩) l.length gc) l.length (stepCells l) ∧ Below w.heap.size w w' := by
  obtain ⟨i0, hi, hz0, hz1, hz2⟩ := info_parts step_info
  have hE := owns_empty (w := w) (base := w.heap.size) (e := 61) (size := 7) (Nat.le_refl _)
  have hnew := steps_news (hs.alloc (.cells #[] 61))
  have hnil := Lib.run_eql_slice_nil (P := Try.prog) w 25 61 (some ⟨b0, o, none⟩) l.length cap 0 0 Try.underlying25
  go_enter Try.func73, Try.ntmps73
  go_wp2_with (at_builtin; refine wpList_append_own _ rfl (.tmp 5) (.tmp 6) 25 rfl w.heap.size 61 i0 (.agg #[.int .i64 0, .int .i64 0, .int .i64 0, .int .i64 0, .int .i64 0, .int .i64 0, .bool false]) 7 56 Try.underlying25 hi hz0 hz1 hz2 rfl (by decide) (.slice (some ⟨w.heap.size, 0, none⟩) 0 0) 0 [] rfl hE ⟨b0, o, none⟩ l.length cap (stepCells l) rfl (stepCells_length l) hnew (stepCells_one l) (by unfold maxLen; omega) (by omega) (by simp) ?_; intro v1 w1 hown1 hgrow1 hnil1)
  go_ret
  simp only [Nat.zero_add, List.nil_append] at hown1
  obtain ⟨g, gc, rfl, _, _⟩ := owns_some hown1 (by omega)
  exact ⟨g, gc, rfl, hown1, ((Below.refl w.heap.size w).alloc (Nat.le_refl _) _).grown hgrow1 (by simp) (fun k e => by simp [Value.ownBlock] at e; omega)⟩

end Go.Proofs.Ytcheigbpoopjgaa

namespace Go.Proofs.Ytcheigbpoopjgaa
open Go.RowKit

/-- What FlyShift answers. -/
def shiftA (q s fr b : Int) (l : List Stp) (d : Int) : Ans := if shiftB q s fr b l d then { q := q, s := s, fr := fr + d, b := b + d, l := laterL d l, ok := true } else .no

theorem flyShiftS_any (q s fr b d : Int) (a : Option Addr) (b0 o cap : Nat) (l : List Stp) (w : World) (hl : l.length ≤ 1048576) (hs : StepsAt w a b0 o l) :
    Calls Try.prog 21 #[.agg #[.int .i64 q, .int .i64 s, .slice a l.length cap, .int .i64 fr, .int .i64 b], .int .i64 d] w (Gives (shiftA q s fr b l d) w) := by
  unfold shiftA
  cases hB : shiftB q s fr b l d with
  | false =>
    by_cases h2 : pathB q s fr b l = false ∨ inB d (-10000) 10000 = false
    · refine (shift_no hB a b0 o cap w hl hs h2).mono fun e w' ⟨he, hb⟩ => ?_
      exact Gives.none he hb
    · have hp : pathB q s fr b l = true := by
        cases hp : pathB q s fr b l with
        | true => rfl
        | false => exact absurd (Or.inl hp) h2
      have hd : inB d (-10000) 10000 = true := by
        cases hd : inB d (-10000) 10000 with
        | true => rfl
        | false => exact absurd (Or.inr hd) h2
      refine (shift_yes q s fr b d a b0 o cap l w hs hp hd).mono fun e w' h => ?_
      rcases h with ⟨_, he, hb⟩ | ⟨ht, _⟩
      · exact Gives.none he hb
      · exfalso
        unfold shiftB at hB
        rw [hp, hd, ht] at hB
        cases hB
  | true =>
    have hB' := hB
    unfold shiftB at hB'
    simp only [Bool.and_eq_true] at hB'
    refine (shift_yes q s fr b d a b0 o cap l w hs hB'.1.1 hB'.1.2).mono fun e w' h => ?_
    rcases h with ⟨hf, _⟩ | ⟨_, g, gc, he, ho, hb⟩
    · rw [hB'.2] at hf; cases hf
    · refine ⟨_, he, ?_, hb⟩
      show World.ownsRow _ _ _ _ _ (laterL d l).length _
      rw [show (laterL d l).length = l.length by simp [laterL]]
      exact ho

theorem pathI_any (q s fr b : Int) (a : Option Addr) (b0 o cap : Nat) (l : List Stp) (w : World) (hl : l.length ≤ 1048576) (hs : StepsAt w a b0 o l) :
    Calls Try.prog 28 #[.agg #[.int .i64 q, .int .i64 s, .slice a l.length cap, .int .i64 fr, .int .i64 b]] w fun e w' => e = .returned (.bool (pathB q s fr b l)) ∧ Below w.heap.size w w' :=
  pathOk_any follow_any q s fr b a b0 o cap l w hl hs

/-- What lies while the program shifts a path. -/
structure ShI (w wr : World) (q s fr b : Int) (v : Value) (l : List Stp) : Prop where
  old : Below w.heap.size w wr
  pa : PathAt wr w.heap.size q s fr b v
  res : PathAt wr (w.heap.size + 1) 0 0 0 0 (.slice none 0 0)
  own : wr.ownsRow (w.heap.size + 2) 61 7 v l.length (stepCells l)
section
variable {w wr w' : World} {q s fr b : Int} {v : Value} {l : List Stp}
theorem ShI.put {g gc : Nat} (h : ShI w wr q s fr b (.slice (some ⟨g, 0, none⟩) l.length gc) l) {i j : Nat} {t t' : Stp} {u : Value} (ht : l[i]? = some t) (hj : j < 7) (he : t'.cells = t.cells.set j u) :
    ShI w (wr.setCell ⟨g, i * 7 + j, none⟩ u) q s fr b (.slice (some ⟨g, 0, none⟩) (l.set i t').length gc) (l.set i t') := by
  rw [List.length_set]
  have h2 := owns_base h.own g rfl
  have hi : i < l.length := (List.getElem?_eq_some_iff.1 ht).1
  refine ⟨h.old.setCell (p := ⟨g, i * 7 + j, none⟩) (by show _ ≤ g; omega) u, h.pa.set (by show w.heap.size ≠ g; omega) u, h.res.set (by show w.heap.size + 1 ≠ g; omega) u, ?_⟩
  have h3 := owns_put h.own (j := i * 7 + j) (by omega) u
  rw [stepCells_put l i j t t' u ht hj he] at h3
  simpa using h3
theorem ShI.setX (h : ShI w wr q s fr b v l) (j : Nat) (u : Value) {q' s' fr' b' : Int} {v' : Value} {l' : List Stp}
    (he : #[Value.int .i64 q, .int .i64 s, v, .int .i64 fr, .int .i64 b].setIfInBounds j u = #[.int .i64 q', .int .i64 s', v', .int .i64 fr', .int .i64 b']) (ho : wr.ownsRow (w.heap.size + 2) 61 7 v' l'.length (stepCells l')) :
    ShI w (wr.setCell ⟨w.heap.size, j, none⟩ u) q' s' fr' b' v' l' := by
  refine ⟨h.old.setCell (p := ⟨w.heap.size, j, none⟩) (Nat.le_refl _) u, ⟨?_⟩, h.res.set (by show w.heap.size + 1 ≠ w.heap.size; omega) u, owns_set ho (fun k hk => by have := owns_base ho k hk; omega) j u⟩
  rw [heap_setCell_same _ w.heap.size j _ _ u h.pa.it, he]
end

set_option maxRecDepth 20000 in
set_option maxHeartbeats 4000000 in
theorem shifted_any (q s fr b d : Int) (a : Option Addr) (b0 o cap : Nat) (l : List Stp) (w : World) (hs : StepsAt w a b0 o l) (hp : pathB q s fr b l = true) (hd : inB d (-10000) 10000 = true) :
    Calls Try.prog 50 #[.agg #[.int .i64 q, .int .i64 s, .slice a l.length cap, .int .i64 fr, .int .i64 b], .int .i64 d] w
      fun e w' => ∃ g gc, e = .returned (.agg #[.int .i64 q, .int .i64 s, .slice (some ⟨g, 0, none⟩) l.length gc, .int .i64 (fr + d), .int .i64 (b + d)]) ∧
          w'.ownsRow w.heap.size 61 7 (.slice (some ⟨g, 0, none⟩) l.length gc) l.length (stepCells (laterL d l)) ∧ Below w.heap.size w w' := by
  have hlen := path_len hp
  have het := end_ticks hp
  have hdr := (inB_iff _ _ _).1 hd
  have HP : Hid (pathB q s fr b l = true) := hp
  have hne : l ≠ [] := by intro e; subst e; simp at hlen
  obtain rfl := hs.here hne
  have Q0 := PathAt.new w q s fr b (.slice (some ⟨b0, o, none⟩) l.length cap)
  have P0 := PathAt.new (w.alloc (.cells #[.int .i64 q, .int .i64 s, .slice (some ⟨b0, o, none⟩) l.length cap, .int .i64 fr, .int .i64 b] 27)) 0 0 0 0 (.slice none 0 0)
  rw [World.size_alloc] at P0
  have Q1 := Q0.keep ((Below.refl _ _).alloc (Nat.le_refl _) (.cells #[.int .i64 0, .int .i64 0, .slice none 0 0, .int .i64 0, .int .i64 0] 27)) Q0.lt
  have B0 : Below w.heap.size w ((w.alloc (.cells #[.int .i64 q, .int .i64 s, .slice (some ⟨b0, o, none⟩) l.length cap, .int .i64 fr, .int .i64 b] 27)).alloc (.cells #[.int .i64 0, .int .i64 0, .slice none 0 0, .int .i64 0, .int .i64 0] 27)) := ((Below.refl _ _).alloc (Nat.le_refl _) _).alloc (by simp) _
  go_enter Try.func50, Try.ntmps50
  go_wp2_with fail
  refine (cloneS_any b0 o cap l _ hlen.1 (by omega) ((hs.alloc _).alloc _)).mono ?_
  rintro e w1 ⟨g, gc, rfl, ho1, hb1⟩
  have D0 : ShI w (w1.setCell ⟨w.heap.size, 2, none⟩ (.slice (some ⟨g, 0, none⟩) l.length gc)) q s fr b (.slice (some ⟨g, 0, none⟩) (laterTo d l 0).length gc) (laterTo d l 0) := by
    rw [laterTo_zero]
    have ho1' : w1.ownsRow (w.heap.size + 2) 61 7 (.slice (some ⟨g, 0, none⟩) l.length gc) l.length (stepCells l) := by simpa using ho1
    have P1 := P0.keep hb1 P0.lt
    have Q2 := Q1.keep hb1 Q1.lt
    have B1 := B0.trans (hb1.mono B0.size)
    refine ⟨B1.setCell (p := ⟨w.heap.size, 2, none⟩) (Nat.le_refl _) _, ⟨?_⟩, P1.set (by show w.heap.size + 1 ≠ w.heap.size; omega) _, owns_set ho1' (fun k hk => by have := owns_base ho1' k hk; omega) 2 _⟩
    rw [heap_setCell_same _ w.heap.size 2 _ _ _ Q2.it]
    rfl
  have Q2 := Q1.keep hb1 Q1.lt
  obtain ⟨⟨g0, g1, g2, g3, g4⟩, gf⟩ := Q2.cells
  clear P0 Q0 Q1 B0 ho1 hb1
  go_wp2
  clear g0 g1 g2 g3 g4 gf Q2
  go_loopw [13] (fun s13 wr => ∃ k : Nat, s13 = .int .i64 (k : Int) ∧ k ≤ l.length ∧ ShI w wr q s fr b (.slice (some ⟨g, 0, none⟩) (laterTo d l k).length gc) (laterTo d l k)) (fun s13 _ => l.length - (intOf s13).toNat)
  case atStart => exact ⟨0, rfl, by omega, D0⟩
  case round =>
    obtain ⟨k, rfl, hk, D3⟩ := hrel
    clear D0
    by_cases hlt : k < l.length
    · obtain ⟨t, ht⟩ : ∃ t, l[k]? = some t := ⟨_, List.getElem?_eq_getElem hlt⟩
      obtain ⟨t0, t1, t2⟩ := step_ticks HP.out ht
      have k0 : (0 : Int) ≤ (k : Int) := by omega
      have k1 : (k : Int) < (l.length : Int) := by omega
      have hnow := laterTo_now d ht
      have x4 := (D3.own.cellAt (k * 7 + 4) (by rw [laterTo_length]; omega)).trans (stepCells_at _ k t 4 hnow (by decide))
      have x5 := (D3.own.cellAt (k * 7 + 5) (by rw [laterTo_length]; omega)).trans (stepCells_at _ k t 5 hnow (by decide))
      have hf := D3.own.frozenAt
      obtain ⟨⟨e0, e1, e2, e3, e4⟩, ef⟩ := D3.pa.cells
      rw [laterTo_length] at e2
      have hgX := owns_base D3.own g rfl
      have hgn : g ≠ w.heap.size := by omega
      have HD : Hid (ShI w ((wr.setCell ⟨g, k * 7 + 4, none⟩ (.int .i64 (t.fr + d))).setCell ⟨g, k * 7 + 5, none⟩ (.int .i64 (t.by_ + d))) q s fr b (.slice (some ⟨g, 0, none⟩) (laterTo d l (k + 1)).length gc) (laterTo d l (k + 1))) := by
        have D4 := D3.put (t' := { t with fr := t.fr + d }) hnow (j := 4) (u := .int .i64 (t.fr + d)) (by decide) rfl
        have hn2 : ((laterTo d l k).set k { t with fr := t.fr + d })[k]? = some { t with fr := t.fr + d } := List.getElem?_set_self (by rw [laterTo_length]; exact hlt)
        have D5 := D4.put (t' := t.later d) hn2 (j := 5) (u := .int .i64 (t.by_ + d)) (by decide) rfl
        rw [List.set_set, ← laterTo_succ d ht] at D5
        exact D5
      clear D3 hnow ht
      go_wp2
      go_roundw
      case rel => exact ⟨k + 1, by simp, by omega, HD.out⟩
      case measure => simp [intOf]; omega
    · obtain rfl : k = l.length := by omega
      rw [laterTo_all] at D3
      have hll : (laterL d l).length = l.length := by simp [laterL]
      rw [hll] at D3
      obtain ⟨⟨e0, e1, e2, e3, e4⟩, ef⟩ := D3.pa.cells
      obtain ⟨⟨f0, f1, f2, f3, f4⟩, ff⟩ := D3.res.cells
      have hgX := owns_base D3.own g rfl
      have HD : Hid (ShI w ((wr.setCell ⟨w.heap.size, 3, none⟩ (.int .i64 (fr + d))).setCell ⟨w.heap.size, 4, none⟩ (.int .i64 (b + d))) q s (fr + d) (b + d) (.slice (some ⟨g, 0, none⟩) l.length gc) (laterL d l)) := by
        have D6 := D3.setX 3 (.int .i64 (fr + d)) (q' := q) (s' := s) (fr' := fr + d) (b' := b) (v' := .slice (some ⟨g, 0, none⟩) l.length gc) (l' := laterL d l) rfl (by rw [hll]; have := D3.own; rw [hll] at this; exact this)
        exact D6.setX 4 (.int .i64 (b + d)) (q' := q) (s' := s) (fr' := fr + d) (b' := b + d) (v' := .slice (some ⟨g, 0, none⟩) l.length gc) (l' := laterL d l) rfl D6.own
      clear D3
      go_wp2
      refine bodyPost_ret (v := .agg #[.int .i64 q, .int .i64 s, .slice (some ⟨g, 0, none⟩) l.length gc, .int .i64 (fr + d), .int .i64 (b + d)]) (by simp [results, Try.results50, go_sem, *]) rfl ⟨g, gc, rfl, ?_, ?_⟩
      · have hh : ∀ k, (Value.slice (some ⟨g, 0, none⟩) l.length gc).ownBlock = some k → k ≠ w.heap.size + 1 := fun k e => by simp [Value.ownBlock] at e; omega
        have ho := HD.out.own
        rw [hll] at ho
        iterate 5 (refine owns_set ?_ hh _ _)
        exact ⟨ho.1, ho.2.imp id fun ⟨g, cap, cur, h1, h2, h3⟩ => ⟨g, cap, cur, h1, by omega, h3⟩⟩
      · iterate 5 (refine Below.setCell ?_ (by show _ ≤ w.heap.size + 1; omega) _)
        exact HD.out.old
end Go.Proofs.Ytcheigbpoopjgaa

namespace Go.Proofs.Ytcheigbpoopjgaa
open Go.RowKit

theorem later_back (t : Stp) (d : Int) : (t.later d).later (-d) = t := by
  obtain ⟨a0, a1, a2, a3, a4, a5, a6⟩ := t
  simp only [Stp.later, Stp.mk.injEq, true_and, and_true]
  omega
theorem laterL_back (l : List Stp) (d : Int) : laterL (-d) (laterL d l) = l := by
  unfold laterL
  rw [List.map_map]
  have : ((fun x : Stp => x.later (-d)) ∘ fun x => x.later d) = id := by funext t; exact later_back t d
  rw [this, List.map_id]
theorem laterL_length (l : List Stp) (d : Int) : (laterL d l).length = l.length := by simp [laterL]
theorem laterL_getD {l : List Stp} {k : Nat} (h : k < l.length) (d : Int) : (laterL d l).getD k .zero = (l.getD k .zero).later d := by
  simp [laterL, List.getD_eq_getElem?_getD, List.getElem?_eq_getElem h]

theorem shift_back {q s fr b : Int} {l : List Stp} {d : Int} (h : shiftB q s fr b l d = true) : shiftA q s (fr + d) (b + d) (laterL d l) (-d) = { q := q, s := s, fr := fr, b := b, l := l, ok := true } := by
  have h' := h
  unfold shiftB at h'
  simp only [Bool.and_eq_true, inB_iff] at h'
  obtain ⟨⟨h1, h2⟩, h3⟩ := h'
  have e1 : fr + d + -d = fr := by omega
  have e2 : b + d + -d = b := by omega
  have hb : shiftB q s (fr + d) (b + d) (laterL d l) (-d) = true := by
    unfold shiftB
    rw [h3, laterL_back, e1, e2, h1, (inB_iff _ _ _).2 (by omega)]
    rfl
  unfold shiftA
  rw [hb, laterL_back, e1, e2]
  rfl

theorem low_later (fr d : Int) (l : List Stp) (k : Nat) : lowB (fr + d) (laterL d l) k = lowB fr l k + d := by
  unfold lowB
  rw [laterL_length]
  by_cases h : k < l.length
  · rw [if_pos h, if_pos h, laterL_getD h]; rfl
  · rw [if_neg h, if_neg h]
theorem high_later (b d : Int) (l : List Stp) (k : Nat) : highB (b + d) (laterL d l) k = highB b l k + d := by
  unfold highB
  rw [laterL_length]
  by_cases h : k < l.length
  · rw [if_pos h, if_pos h, laterL_getD h]; rfl
  · rw [if_neg h, if_neg h]
theorem most_later (s d : Int) (l : List Stp) (k : Nat) : mostB s (laterL d l) k = mostB s l k := by
  unfold mostB
  by_cases h : k < l.length
  · rw [laterL_getD h]; rfl
  · have e1 : (laterL d l).getD k .zero = .zero := by simp [List.getD_eq_getElem?_getD, List.getElem?_eq_none (show (laterL d l).length ≤ k by rw [laterL_length]; omega)]
    have e2 : l.getD k .zero = .zero := by simp [List.getD_eq_getElem?_getD, List.getElem?_eq_none (show l.length ≤ k by omega)]
    rw [e1, e2]
theorem mx_later (x y d : Int) : mxB (x + d) (y + d) = mxB x y + d := by unfold mxB; split <;> split <;> omega
theorem mn_later (x y d : Int) : mnB (x + d) (y + d) = mnB x y + d := by unfold mnB; split <;> split <;> omega
theorem fwd_later (q s fr b d : Int) (l : List Stp) : ∀ k, fwdS q s (fr + d) (b + d) (laterL d l) k = ((fwdS q s fr b l k).1 + d, (fwdS q s fr b l k).2 + d)
  | 0 => by simp only [fwdS, low_later, high_later]
  | k + 1 => by
    simp only [fwdS, low_later, high_later, most_later, fwd_later q s fr b d l k]
    rw [show (fwdS q s fr b l k).1 + d + q = (fwdS q s fr b l k).1 + q + d by omega, show (fwdS q s fr b l k).2 + d + mostB s l k = (fwdS q s fr b l k).2 + mostB s l k + d by omega, mx_later, mn_later]
theorem bwd_later (q s fr b d : Int) (l : List Stp) (n : Nat) : ∀ j, bwdS q s (fr + d) (b + d) (laterL d l) n j = ((bwdS q s fr b l n j).1 + d, (bwdS q s fr b l n j).2 + d)
  | 0 => by simp only [bwdS, fwd_later]
  | j + 1 => by
    simp only [bwdS, fwd_later, most_later, bwd_later q s fr b d l n j]
    rw [show (bwdS q s fr b l n j).1 + d - mostB s l (n - (j + 1)) = (bwdS q s fr b l n j).1 - mostB s l (n - (j + 1)) + d by omega, show (bwdS q s fr b l n j).2 + d - q = (bwdS q s fr b l n j).2 - q + d by omega, mx_later, mn_later]
theorem some_later (x : Int × Int) (d : Int) : someB (x.1 + d, x.2 + d) = someB x := by unfold someB; simp
theorem span_later (q s fr b d : Int) (l : List Stp) : spanB q s (fr + d) (b + d) (laterL d l) = spanB q s fr b l := by
  unfold spanB fwdTo bwdTo
  rw [laterL_length]
  simp only [fwd_later, bwd_later, some_later]
theorem spans_later (q s fr b d : Int) (l : List Stp) : spansL q s (fr + d) (b + d) (laterL d l) = (spansL q s fr b l).map fun x => (x.1 + d, x.2 + d) := by
  unfold spansL
  rw [span_later, laterL_length]
  split
  · rw [List.map_map]
    apply List.map_congr_left
    intro k _
    exact bwd_later q s fr b d l l.length (l.length - k)
  · rfl
/-- The first flight of a path that is shifted is shifted with it. -/
theorem first_later {q s fr b d : Int} {l : List Stp} (h : shiftB q s fr b l d = true) : (flyL q s (fr + d) (b + d) (laterL d l)).map (·.1) = ((flyL q s fr b l).map (·.1)).map (· + d) := by
  unfold shiftB at h
  simp only [Bool.and_eq_true] at h
  unfold flyL
  rw [h.1.1, h.2]
  simp only [if_true]
  rw [spans_later, List.map_map, List.map_map]
  rfl
end Go.Proofs.Ytcheigbpoopjgaa

namespace Go.Proofs.Ytcheigbpoopjgaa
open Go.RowKit

set_option maxRecDepth 20000 in
set_option maxHeartbeats 4000000 in
theorem flyShiftI_any (q s fr b d : Int) (a : Option Addr) (b0 o cap : Nat) (l : List Stp) (w : World) (hl : l.length ≤ 1048576) (hs : StepsAt w a b0 o l) :
    Calls Try.prog 20 #[.agg #[.int .i64 q, .int .i64 s, .slice a l.length cap, .int .i64 fr, .int .i64 b], .int .i64 d] w (Gives (shiftA q s fr b l d) w) := by
  have Q0 := PathAt.new w q s fr b (.slice a l.length cap)
  have P0 := PathAt.new (w.alloc (.cells #[.int .i64 q, .int .i64 s, .slice a l.length cap, .int .i64 fr, .int .i64 b] 27)) 0 0 0 0 (.slice none 0 0)
  rw [World.size_alloc] at P0
  have Q1 := Q0.keep ((Below.refl _ _).alloc (Nat.le_refl _) (.cells #[.int .i64 0, .int .i64 0, .slice none 0 0, .int .i64 0, .int .i64 0] 27)) Q0.lt
  have B0 : Below w.heap.size w ((w.alloc (.cells #[.int .i64 q, .int .i64 s, .slice a l.length cap, .int .i64 fr, .int .i64 b] 27)).alloc (.cells #[.int .i64 0, .int .i64 0, .slice none 0 0, .int .i64 0, .int .i64 0] 27)) := ((Below.refl _ _).alloc (Nat.le_refl _) _).alloc (by simp) _
  have no : ∀ (W : World) (e : Ending), shiftB q s fr b l d = false → Below w.heap.size w W → e = .returned (.tuple #[.agg #[.int .i64 0, .int .i64 0, .slice none 0 0, .int .i64 0, .int .i64 0], .bool false]) → Gives (shiftA q s fr b l d) w e W := fun W e hB hb he => by
    unfold shiftA
    rw [hB]
    exact Gives.none he hb
  go_enter Try.func20, Try.ntmps20
  go_wp2_with fail
  refine (pathI_any q s fr b a b0 o cap l _ hl ((hs.alloc _).alloc _)).mono ?_
  rintro e w1 ⟨rfl, hb1⟩
  have P1 := P0.keep hb1 P0.lt
  have Q2 := Q1.keep hb1 Q1.lt
  have B1 := B0.trans (hb1.mono B0.size)
  obtain ⟨⟨f0, f1, f2, f3, f4⟩, ff⟩ := P1.cells
  clear hb1 P0 B0 Q0 Q1
  cases hp : pathB q s fr b l with
  | false =>
    have hB : Hid (shiftB q s fr b l d = false) := by show _ = _; unfold shiftB; rw [hp]; rfl
    go_wp2
    refine bodyPost_ret (v := .tuple #[.agg #[.int .i64 0, .int .i64 0, .slice none 0 0, .int .i64 0, .int .i64 0], .bool false]) (by simp [results, Try.results20, go_sem, *]) rfl (no _ _ hB.out ?_ rfl)
    iterate 5 (refine Below.setCell ?_ (by show _ ≤ w.heap.size + 1; omega) _)
    exact B1
  | true =>
    by_cases h1 : d < -10000
    · have hB : Hid (shiftB q s fr b l d = false) := by
        show _ = _
        have : inB d (-10000) 10000 = false := by rw [Bool.eq_false_iff]; intro h; have := (inB_iff _ _ _).1 h; omega
        unfold shiftB; rw [hp, this]; rfl
      go_wp2
      refine bodyPost_ret (v := .tuple #[.agg #[.int .i64 0, .int .i64 0, .slice none 0 0, .int .i64 0, .int .i64 0], .bool false]) (by simp [results, Try.results20, go_sem, *]) rfl (no _ _ hB.out ?_ rfl)
      iterate 5 (refine Below.setCell ?_ (by show _ ≤ w.heap.size + 1; omega) _)
      exact B1
    · by_cases h2 : 10000 < d
      · have hB : Hid (shiftB q s fr b l d = false) := by
          show _ = _
          have : inB d (-10000) 10000 = false := by rw [Bool.eq_false_iff]; intro h; have := (inB_iff _ _ _).1 h; omega
          unfold shiftB; rw [hp, this]; rfl
        go_wp2
        refine bodyPost_ret (v := .tuple #[.agg #[.int .i64 0, .int .i64 0, .slice none 0 0, .int .i64 0, .int .i64 0], .bool false]) (by simp [results, Try.results20, go_sem, *]) rfl (no _ _ hB.out ?_ rfl)
        iterate 5 (refine Below.setCell ?_ (by show _ ≤ w.heap.size + 1; omega) _)
        exact B1
      · have hd : inB d (-10000) 10000 = true := (inB_iff _ _ _).2 (by omega)
        have hlen := path_len hp
        have hll : (laterL d l).length = l.length := by simp [laterL]
        have HP : Hid (pathB q s fr b l = true) := hp
        obtain ⟨⟨g0, g1, g2, g3, g4⟩, gf⟩ := Q2.cells
        go_wp2_with fail
        refine (shifted_any q s fr b d a b0 o cap l _ (hs.below B1 hs.lt) HP.out hd).mono ?_
        rintro e w2 ⟨g, gc, rfl, ho2, hb2⟩
        have P2 := P1.keep hb2 P1.lt
        have B2 := B1.trans (hb2.mono B1.size)
        have hst : StepsAt w2 (some ⟨g, 0, none⟩) g 0 (laterL d l) := steps_owned ho2
        have al : Below w2.heap.size w2 (w2.alloc (.cells #[.int .i64 q, .int .i64 s, .slice (some ⟨g, 0, none⟩) l.length gc, .int .i64 (fr + d), .int .i64 (b + d)] 27)) := (Below.refl _ _).alloc (Nat.le_refl _) _
        have X3 := PathAt.new w2 q s (fr + d) (b + d) (.slice (some ⟨g, 0, none⟩) l.length gc)
        have P3 := P2.keep al P2.lt
        have B3 := B2.trans (al.mono B2.size)
        have ho3 := owns_below ho2 al
        have hst3 := hst.below al hst.lt
        have hz : w.heap.size + 1 < w2.heap.size := P2.lt
        have hgb := owns_base ho2 g rfl
        have hw1 := P1.lt
        clear g0 g1 g2 g3 g4 gf f0 f1 f2 f3 f4 ff P1 P2 Q2 B2 hb2 ho2 hst al B1
        have hC : ∀ W : World, StepsAt W (some ⟨g, 0, none⟩) g 0 (laterL d l) → Calls Try.prog 28 #[.agg #[.int .i64 q, .int .i64 s, .slice (some ⟨g, 0, none⟩) l.length gc, .int .i64 (fr + d), .int .i64 (b + d)]] W fun e w' => e = .returned (.bool (pathB q s (fr + d) (b + d) (laterL d l))) ∧ Below W.heap.size W w' := fun W hW => by
          have := pathI_any q s (fr + d) (b + d) (some ⟨g, 0, none⟩) g 0 gc (laterL d l) W (by omega) hW
          rw [hll] at this
          exact this
        go_wp2_with fail
        refine (hC _ hst3).mono ?_
        rintro e w4 ⟨rfl, hb4⟩
        have P4 := P3.keep hb4 P3.lt
        have X4 := X3.keep hb4 X3.lt
        have B4 := B3.trans (hb4.mono B3.size)
        have ho4 := owns_below ho3 hb4
        obtain ⟨⟨g0, g1, g2, g3, g4⟩, gf⟩ := X4.cells
        obtain ⟨⟨f0, f1, f2, f3, f4⟩, ff⟩ := P4.cells
        clear hC P3 X3 B3 ho3 hst3 hb4
        cases hp2 : pathB q s (fr + d) (b + d) (laterL d l) with
        | false =>
          have hB : Hid (shiftB q s fr b l d = false) := by show _ = _; unfold shiftB; rw [hp2, Bool.and_false]
          clear hp2
          go_wp2
          refine bodyPost_ret (v := .tuple #[.agg #[.int .i64 0, .int .i64 0, .slice none 0 0, .int .i64 0, .int .i64 0], .bool false]) (by simp [results, Try.results20, go_sem, *]) rfl (no _ _ hB.out ?_ rfl)
          iterate 5 (refine Below.setCell ?_ (by show _ ≤ w.heap.size + 1; omega) _)
          exact B4
        | true =>
          have hB : Hid (shiftB q s fr b l d = true) := by show _ = _; unfold shiftB; rw [hp2, HP.out, hd]; rfl
          have HY : Hid (∀ W (e : Ending), W.ownsRow w.heap.size 61 7 (.slice (some ⟨g, 0, none⟩) l.length gc) l.length (stepCells (laterL d l)) → Below w.heap.size w W → e = .returned (.tuple #[.agg #[.int .i64 q, .int .i64 s, .slice (some ⟨g, 0, none⟩) l.length gc, .int .i64 (fr + d), .int .i64 (b + d)], .bool true]) → Gives (shiftA q s fr b l d) w e W) := fun W e ho hb he => by
            unfold shiftA
            rw [hB.out]
            refine ⟨_, he, ?_, hb⟩
            show World.ownsRow _ _ _ _ _ (laterL d l).length _
            rw [hll]
            exact ho
          clear hp2 no
          go_wp2
          refine bodyPost_ret (v := .tuple #[.agg #[.int .i64 q, .int .i64 s, .slice (some ⟨g, 0, none⟩) l.length gc, .int .i64 (fr + d), .int .i64 (b + d)], .bool true]) (by simp [results, Try.results20, go_sem, *]) rfl (HY.out _ _ ?_ ?_ rfl)
          · have hh : ∀ k, (Value.slice (some ⟨g, 0, none⟩) l.length gc).ownBlock = some k → k ≠ w.heap.size + 1 := fun k e => by simp [Value.ownBlock] at e; omega
            iterate 5 (refine owns_set ?_ hh _ _)
            exact ⟨ho4.1, ho4.2.imp id fun ⟨g, cap, cur, h1, h2, h3⟩ => ⟨g, cap, cur, h1, by omega, h3⟩⟩
          · iterate 5 (refine Below.setCell ?_ (by show _ ≤ w.heap.size + 1; omega) _)
            exact B4
end Go.Proofs.Ytcheigbpoopjgaa

namespace Go.Proofs.Ytcheigbpoopjgaa
open Go.RowKit

def sameB (t u : Stp) : Bool := t.x == u.x && (t.y == u.y && (t.lo == u.lo && (t.hi == u.hi && (t.fr == u.fr && (t.by_ == u.by_ && t.ho == u.ho)))))
def sameAt (l l' : List Stp) (j : Nat) : Bool := sameB (l.getD j .zero) (l'.getD j .zero)
def preN : List Stp → List Stp → Nat
  | t :: l, u :: l' => if sameB t u then preN l l' + 1 else 0
  | _, _ => 0
def kindEq (q s q' s' : Int) : Bool := q == q' && s == s'
def sharedN (q s : Int) (l : List Stp) (q' s' : Int) (l' : List Stp) : Nat := if kindEq q s q' s' then preN l l' else 0

theorem preN_at : ∀ (k : Nat) (l l' : List Stp), k ≤ l.length → k ≤ l'.length → (∀ j, j < k → sameAt l l' j = true) → (k = l.length ∨ k = l'.length ∨ sameAt l l' k = false) → preN l l' = k
  | 0, [], l', _, _, _, _ => by cases l' <;> rfl
  | 0, t :: l, [], _, _, _, _ => rfl
  | 0, t :: l, u :: l', _, _, _, h => by
    rcases h with h | h | h
    · simp at h
    · simp at h
    · unfold preN; rw [if_neg]; intro e; unfold sameAt at h; simp [e] at h
  | k + 1, [], _, h, _, _, _ => by simp at h
  | k + 1, t :: l, [], _, h, _, _ => by simp at h
  | k + 1, t :: l, u :: l', h1, h2, h3, h4 => by
    have h0 := h3 0 (by omega)
    unfold sameAt at h0
    simp at h0
    unfold preN
    rw [if_pos h0, preN_at k l l' (by simpa using h1) (by simpa using h2) (fun j hj => by have := h3 (j + 1) (by omega); unfold sameAt at this ⊢; simpa using this) (by
      rcases h4 with h | h | h
      · left; simpa using h
      · right; left; simpa using h
      · right; right; unfold sameAt at h ⊢; simpa using h)]

set_option maxHeartbeats 4000000 in
theorem run_eql_step (t u : Stp) (w : World) :
    (binOp .eql 61 (.agg #[.int .i64 t.x, .int .i64 t.y, .int .i64 t.lo, .int .i64 t.hi, .int .i64 t.fr, .int .i64 t.by_, .bool t.ho]) (.agg #[.int .i64 u.x, .int .i64 u.y, .int .i64 u.lo, .int .i64 u.hi, .int .i64 u.fr, .int .i64 u.by_, .bool u.ho])).run Try.prog w = .ok (.bool (sameB t u)) w := by
  unfold sameB
  cases h0 : t.x == u.x with
  | false => simp [go_sem, h0]
  | true =>
    cases h1 : t.y == u.y with
    | false => simp [go_sem, h0, h1]
    | true =>
      cases h2 : t.lo == u.lo with
      | false => simp [go_sem, h0, h1, h2]
      | true =>
        cases h3 : t.hi == u.hi with
        | false => simp [go_sem, h0, h1, h2, h3]
        | true =>
          cases h4 : t.fr == u.fr with
          | false => simp [go_sem, h0, h1, h2, h3, h4]
          | true =>
            cases h5 : t.by_ == u.by_ with
            | false => simp [go_sem, h0, h1, h2, h3, h4, h5]
            | true =>
              cases h6 : t.ho == u.ho with
              | false => simp [go_sem, h0, h1, h2, h3, h4, h5, h6]
              | true =>
                simp [go_sem, h0, h1, h2, h3, h4, h5, h6]

theorem run_eql_kind (q s q' s' : Int) (w : World) : (binOp .eql 24 (.agg #[.int .i64 q, .int .i64 s]) (.agg #[.int .i64 q', .int .i64 s'])).run Try.prog w = .ok (.bool (kindEq q s q' s')) w := by
  unfold kindEq
  cases h0 : q == q' with
  | false => simp [go_sem, h0]
  | true =>
    cases h1 : s == s' with
    | false => simp [go_sem, h0, h1]
    | true => simp [go_sem, h0, h1]
theorem run_neq_kind (q s q' s' : Int) (w : World) : (binOp .neq 24 (.agg #[.int .i64 q, .int .i64 s]) (.agg #[.int .i64 q', .int .i64 s'])).run Try.prog w = .ok (.bool (!kindEq q s q' s')) w := by
  unfold kindEq
  cases h0 : q == q' with
  | false => simp [go_sem, h0]
  | true =>
    cases h1 : s == s' with
    | false => simp [go_sem, h0, h1]
    | true => simp [go_sem, h0, h1]
theorem run_neq_step (t u : Stp) (w : World) :
    (binOp .neq 61 (.agg #[.int .i64 t.x, .int .i64 t.y, .int .i64 t.lo, .int .i64 t.hi, .int .i64 t.fr, .int .i64 t.by_, .bool t.ho]) (.agg #[.int .i64 u.x, .int .i64 u.y, .int .i64 u.lo, .int .i64 u.hi, .int .i64 u.fr, .int .i64 u.by_, .bool u.ho])).run Try.prog w = .ok (.bool (!sameB t u)) w := by
  have h := run_eql_step t u w
  rw [run_eql_struct] at h
  rw [run_neq_struct]
  generalize (Op.equalIn 10000 61 (.agg #[.int .i64 t.x, .int .i64 t.y, .int .i64 t.lo, .int .i64 t.hi, .int .i64 t.fr, .int .i64 t.by_, .bool t.ho]) (.agg #[.int .i64 u.x, .int .i64 u.y, .int .i64 u.lo, .int .i64 u.hi, .int .i64 u.fr, .int .i64 u.by_, .bool u.ho])).run Try.prog w = r at h ⊢
  cases r with
  | ok b w' =>
    simp only [Result.andThen_ok, Result.ok.injEq, Value.bool.injEq] at h ⊢
    obtain ⟨rfl, rfl⟩ := h
    exact ⟨rfl, rfl⟩
  | _ => simp [Result.andThen] at h
end Go.Proofs.Ytcheigbpoopjgaa

namespace Go.Proofs.Ytcheigbpoopjgaa
open Go.RowKit

theorem sameB_refl (t : Stp) : sameB t t = true := by simp [sameB]

set_option maxRecDepth 20000 in
set_option maxHeartbeats 4000000 in
theorem wfPath_same (q s fr b : Int) (a a' : Option Addr) (b0 o cap b0' o' cap' : Nat) (l : List Stp) (w : World) (hl : l.length ≤ 1048576) (hs : StepsAt w a b0 o l) (hs' : StepsAt w a' b0' o' l) :
    Calls Try.prog 22 #[.agg #[.int .i64 q, .int .i64 s, .slice a l.length cap, .int .i64 fr, .int .i64 b], .agg #[.int .i64 q, .int .i64 s, .slice a' l.length cap', .int .i64 fr, .int .i64 b]] w
      fun e w' => e = .returned (.bool true) ∧ Below w.heap.size w w' := by
  have P0 := PathAt.new (w.alloc (.cells #[.int .i64 q, .int .i64 s, .slice a l.length cap, .int .i64 fr, .int .i64 b] 27)) q s fr b (.slice a' l.length cap')
  rw [World.size_alloc] at P0
  have Q0 := (PathAt.new w q s fr b (.slice a l.length cap)).keep ((Below.refl _ _).alloc (Nat.le_refl _) (.cells #[.int .i64 q, .int .i64 s, .slice a' l.length cap', .int .i64 fr, .int .i64 b] 27)) (PathAt.new w q s fr b (.slice a l.length cap)).lt
  have B0 : Below w.heap.size w ((w.alloc (.cells #[.int .i64 q, .int .i64 s, .slice a l.length cap, .int .i64 fr, .int .i64 b] 27)).alloc (.cells #[.int .i64 q, .int .i64 s, .slice a' l.length cap', .int .i64 fr, .int .i64 b] 27)) := ((Below.refl _ _).alloc (Nat.le_refl _) _).alloc (by simp) _
  have nek := run_neq_kind q s q s
  rw [show kindEq q s q s = true by simp [kindEq]] at nek
  go_enter Try.func22, Try.ntmps22
  go_wp2
  clear nek
  go_loopw [5] (fun s5 wr => ∃ k : Nat, s5 = .int .i64 (k : Int) ∧ k ≤ l.length ∧ Below w.heap.size w wr ∧ PathAt wr w.heap.size q s fr b (.slice a l.length cap) ∧ PathAt wr (w.heap.size + 1) q s fr b (.slice a' l.length cap')) (fun s5 _ => l.length - (intOf s5).toNat)
  case atStart => exact ⟨0, rfl, by omega, B0, Q0, P0⟩
  case round =>
    clear P0 Q0 B0
    obtain ⟨k, rfl, hk, hb, Q, P⟩ := hrel
    obtain ⟨⟨p0, p1, p2, p3, p4⟩, _⟩ := Q.cells
    obtain ⟨⟨r0, r1, r2, r3, r4⟩, _⟩ := P.cells
    have k0 : (0 : Int) ≤ (k : Int) := by omega
    by_cases g1 : k < l.length
    · have k1 : (k : Int) < (l.length : Int) := by omega
      obtain ⟨t, ht⟩ : ∃ t, l[k]? = some t := ⟨_, List.getElem?_eq_getElem g1⟩
      have hne : l ≠ [] := by intro e; subst e; simp at g1
      obtain rfl := hs.here hne
      obtain rfl := hs'.here hne
      obtain ⟨c0, c1, c2, c3, c4, c5, c6⟩ := (hs.below hb hs.lt).seven ht
      obtain ⟨e0, e1, e2, e3, e4, e5, e6⟩ := (hs'.below hb hs'.lt).seven ht
      have nes := run_neq_step t t
      rw [sameB_refl] at nes
      have HB : Hid (Below w.heap.size w wr) := hb
      have HQ : Hid (PathAt wr w.heap.size q s fr b (.slice (some ⟨b0, o, none⟩) l.length cap)) := Q
      have HP : Hid (PathAt wr (w.heap.size + 1) q s fr b (.slice (some ⟨b0', o', none⟩) l.length cap')) := P
      clear ht hb Q P
      go_wp2
      go_quiet (fail)
      go_wp2
      go_roundw
      case rel => exact ⟨k + 1, by simp, by omega, HB.out.trans ⟨rfl, rfl, rfl, Nat.le_refl _, fun _ _ => rfl⟩, ⟨HQ.out.it⟩, ⟨HP.out.it⟩⟩
      case measure => simp [intOf]; omega
    · obtain rfl : k = l.length := by omega
      go_wp2
      go_ret
      exact ⟨rfl, hb⟩
end Go.Proofs.Ytcheigbpoopjgaa

namespace Go.Proofs.Ytcheigbpoopjgaa
open Go.RowKit

/-- The first step was entered within these ticks. -/
def enterL (m : List Stp) (x y : Int) : List Stp := m.set 0 { m.getD 0 .zero with fr := x, by_ := y }
/-- The first step is not left up to a tick. -/
def afterL (m : List Stp) (nw : Int) : List Stp := if 1 < m.length then m.set 1 { m.getD 1 .zero with fr := mxB (m.getD 1 .zero).fr (nw + 1) } else m
def afterFr (fr : Int) (m : List Stp) (nw : Int) : Int := if 1 < m.length then fr else mxB fr (nw + 1)
/-- What is left, entered within x .. y, seen at nw. -/
def leftL (l : List Stp) (k : Nat) (x y nw : Int) : List Stp := afterL (enterL (l.drop k) x y) nw
def leftFr (fr : Int) (l : List Stp) (k : Nat) (nw : Int) : Int := afterFr fr (l.drop k) nw
/-- A path, if there is a flight along it. -/
def canA (q s fr b : Int) (m : List Stp) : Ans := if spanB q s fr b m then { q := q, s := s, fr := fr, b := b, l := m, ok := true } else .no
/-- Somebody can be in that step now. -/
def inStepB (q s fr b : Int) (l : List Stp) (st nw : Int) : Bool := pathB q s fr b l && inB st 0 ((l.length : Int) - 1) && inB nw 0 10000
/-- What FlyRest answers. -/
def restA (q s fr b : Int) (l : List Stp) (st en nw : Int) : Ans :=
  if inStepB q s fr b l st nw && inB en 0 nw then canA q s (leftFr fr l st.toNat nw) b (leftL l st.toNat (mxB (l.getD st.toNat .zero).fr en) (mnB (l.getD st.toNat .zero).by_ en) nw) else .no
/-- The span of a place. -/
def spanOf (q s fr b : Int) (l : List Stp) (k : Nat) : Int × Int := bwdS q s fr b l l.length (l.length - k)
/-- What FlySeen answers. -/
def seenA (q s fr b : Int) (l : List Stp) (st nw : Int) : Ans :=
  if inStepB q s fr b l st nw && spanB q s fr b l then canA q s (leftFr fr l st.toNat nw) b (leftL l st.toNat (spanOf q s fr b l st.toNat).1 (mnB (spanOf q s fr b l st.toNat).2 nw) nw) else .no

theorem enterL_length (m : List Stp) (x y : Int) : (enterL m x y).length = m.length := by simp [enterL]
theorem afterL_length (m : List Stp) (nw : Int) : (afterL m nw).length = m.length := by unfold afterL; split <;> simp
theorem leftL_length (l : List Stp) (k : Nat) (x y nw : Int) : (leftL l k x y nw).length = l.length - k := by unfold leftL; rw [afterL_length, enterL_length, List.length_drop]
theorem set_getD {m : List Stp} {i j : Nat} {t : Stp} (hj : j < m.length) : (m.set i t).getD j .zero = if i = j then t else m.getD j .zero := by
  simp only [List.getD_eq_getElem?_getD]
  split
  · rename_i h; subst h; rw [List.getElem?_set_self hj]; rfl
  · rename_i h; rw [List.getElem?_set_ne h]

theorem enterL_getD {m : List Stp} (x y : Int) {j : Nat} (hj : j < m.length) : (enterL m x y).getD j .zero = if j = 0 then { m.getD 0 .zero with fr := x, by_ := y } else m.getD j .zero := by
  unfold enterL; rw [set_getD hj]; split <;> rename_i h
  · rw [if_pos h.symm]
  · rw [if_neg (fun e => h e.symm)]
theorem afterL_getD {m : List Stp} (nw : Int) {j : Nat} (hj : j < m.length) : (afterL m nw).getD j .zero = if j = 1 then { m.getD 1 .zero with fr := mxB (m.getD 1 .zero).fr (nw + 1) } else m.getD j .zero := by
  unfold afterL
  by_cases h : 1 < m.length
  · rw [if_pos h, set_getD hj]; split <;> rename_i h
    · rw [if_pos h.symm]
    · rw [if_neg (fun e => h e.symm)]
  · rw [if_neg h, if_neg (by omega)]
theorem drop_getD (l : List Stp) (k j : Nat) : (l.drop k).getD j .zero = l.getD (k + j) .zero := by simp [List.getD_eq_getElem?_getD, List.getElem?_drop]
theorem leftL_getD {l : List Stp} {k : Nat} (x y nw : Int) {j : Nat} (hj : k + j < l.length) :
    (leftL l k x y nw).getD j .zero = if j = 0 then { l.getD k .zero with fr := x, by_ := y } else if j = 1 then { l.getD (k + 1) .zero with fr := mxB (l.getD (k + 1) .zero).fr (nw + 1) } else l.getD (k + j) .zero := by
  unfold leftL
  rw [afterL_getD nw (by rw [enterL_length, List.length_drop]; omega)]
  by_cases h1 : j = 1
  · subst h1
    rw [if_pos rfl, if_neg (by decide), if_pos rfl, enterL_getD x y (by rw [List.length_drop]; omega), if_neg (by decide), drop_getD]
  · rw [if_neg h1, enterL_getD x y (by rw [List.length_drop]; omega)]
    by_cases h0 : j = 0
    · subst h0
      rw [if_pos rfl, if_pos rfl, drop_getD, Nat.add_zero]
    · rw [if_neg h0, if_neg h0, if_neg h1, drop_getD]
/-- It is as it was but for its ticks. -/
theorem leftL_same {l : List Stp} {k : Nat} (x y nw : Int) {j : Nat} (hj : k + j < l.length) :
    ((leftL l k x y nw).getD j .zero).x = (l.getD (k + j) .zero).x ∧ ((leftL l k x y nw).getD j .zero).y = (l.getD (k + j) .zero).y ∧ ((leftL l k x y nw).getD j .zero).lo = (l.getD (k + j) .zero).lo ∧ ((leftL l k x y nw).getD j .zero).hi = (l.getD (k + j) .zero).hi := by
  rw [leftL_getD x y nw hj]
  split
  · rename_i h; subst h; exact ⟨rfl, rfl, rfl, rfl⟩
  · split
    · rename_i h; subst h; exact ⟨rfl, rfl, rfl, rfl⟩
    · exact ⟨rfl, rfl, rfl, rfl⟩

theorem path_parts {q s fr b : Int} {l : List Stp} (h : pathB q s fr b l = true) : kindB q s = true ∧ (1 ≤ l.length ∧ l.length ≤ 40) ∧ (0 ≤ fr ∧ fr ≤ b ∧ b ≤ 10000) ∧ ∀ i, i < l.length → goodS l i = true := by
  have hl := path_len h
  simp only [pathB, Bool.and_eq_true, decide_eq_true_eq, goodTo, List.all_eq_true, List.mem_range] at h
  obtain ⟨⟨⟨⟨h1, _⟩, h3⟩, h4⟩, h5⟩ := h
  have h3' := (inB_iff _ _ _).1 h3
  exact ⟨h1, hl, ⟨h3'.1, h3'.2, h4⟩, h5⟩
theorem step_parts {l : List Stp} {i : Nat} (h : goodS l i = true) : 0 ≤ (l.getD i .zero).fr ∧ (l.getD i .zero).fr ≤ (l.getD i .zero).by_ ∧ (l.getD i .zero).by_ ≤ 10000 := by
  unfold goodS at h
  have h1 := (Bool.and_eq_true_iff.1 h).1
  simp only [stepB, decide_eq_true_eq] at h1
  omega

theorem left_wide {q s fr b : Int} {l : List Stp} (hp : pathB q s fr b l = true) {k : Nat} (hk : k < l.length) {x y nw : Int} (hx : 0 ≤ x) (hy : y ≤ 10000) (hn : 0 ≤ nw) : Wide q s (leftFr fr l k nw) b (leftL l k x y nw) where
  kind := kind_range hp
  len := by have := path_len hp; rw [leftL_length]; omega
  win i := by
    obtain ⟨_, _, h3, h4⟩ := path_parts hp
    unfold lowB highB
    rw [leftL_length]
    by_cases hi : i < l.length - k
    · rw [if_pos hi, if_pos hi, leftL_getD x y nw (by omega)]
      split
      · exact ⟨hx, hy⟩
      · split
        · have h5 := step_parts (h4 (k + 1) (by omega))
          have h6 := mxB_le (l.getD (k + 1) .zero).fr (nw + 1)
          exact ⟨by show 0 ≤ mxB _ _; omega, by show (l.getD (k + 1) .zero).by_ ≤ 10000; omega⟩
        · have h5 := step_parts (h4 (k + i) (by omega))
          omega
    · rw [if_neg hi, if_neg hi]
      refine ⟨?_, by omega⟩
      unfold leftFr afterFr
      split
      · omega
      · have h6 := mxB_le fr (nw + 1); omega

theorem span_windows {q s fr b : Int} {l : List Stp} (h : spanB q s fr b l = true) {i : Nat} (hi : i ≤ l.length) : lowB fr l i ≤ highB b l i := by
  unfold spanB at h
  have h1 := fwdTo_at (Bool.and_eq_true_iff.1 h).1 (show i < l.length + 1 by omega)
  cases i with
  | zero => exact h1
  | succ m =>
    have h2 := mxB_le (lowB fr l (m + 1)) ((fwdS q s fr b l m).1 + q)
    have h3 := mnB_le (highB b l (m + 1)) ((fwdS q s fr b l m).2 + mostB s l m)
    simp only [fwdS] at h1
    omega

theorem left_path {q s fr b : Int} {l : List Stp} (hp : pathB q s fr b l = true) {k : Nat} (hk : k < l.length) {x y nw : Int} (hx : 0 ≤ x) (hy : y ≤ 10000) (hn : 0 ≤ nw) (h : spanB q s (leftFr fr l k nw) b (leftL l k x y nw) = true) :
    pathB q s (leftFr fr l k nw) b (leftL l k x y nw) = true := by
  have hW := left_wide hp hk hx hy hn
  obtain ⟨h1, h2, h3, h4⟩ := path_parts hp
  have hlen := leftL_length l k x y nw
  have e1 : inB ((leftL l k x y nw).length : Int) 1 40 = true := (inB_iff _ _ _).2 (by have := hW.len; omega)
  have we := hW.win (l.length - k)
  have wl := span_windows h (i := l.length - k) (by rw [hlen]; exact Nat.le_refl _)
  have el : lowB (leftFr fr l k nw) (leftL l k x y nw) (l.length - k) = leftFr fr l k nw := by unfold lowB; rw [hlen, if_neg (by omega)]
  have eh : highB b (leftL l k x y nw) (l.length - k) = b := by unfold highB; rw [hlen, if_neg (by omega)]
  rw [el, eh] at wl we
  have e2 : inB (leftFr fr l k nw) 0 b = true := (inB_iff _ _ _).2 (by omega)
  have e3 : goodTo (leftL l k x y nw) (leftL l k x y nw).length = true := by
    simp only [goodTo, List.all_eq_true, List.mem_range]
    intro i hi
    rw [hlen] at hi
    have wi := hW.win i
    have wl := span_windows h (i := i) (by rw [hlen]; omega)
    unfold lowB highB at wi wl
    rw [hlen, if_pos hi, if_pos hi] at wi wl
    have hg := h4 (k + i) (by omega)
    obtain ⟨s1, s2, s3, s4⟩ := leftL_same (l := l) (k := k) x y nw (j := i) (by omega)
    unfold goodS at hg ⊢
    obtain ⟨g1, g2⟩ := Bool.and_eq_true_iff.1 hg
    refine Bool.and_eq_true_iff.2 ⟨?_, ?_⟩
    · simp only [stepB, decide_eq_true_eq] at g1 ⊢
      rw [s1, s2, s3, s4]
      omega
    · cases i with
      | zero => rfl
      | succ m =>
        obtain ⟨r1, r2, r3, r4⟩ := leftL_same (l := l) (k := k) x y nw (j := m) (by omega)
        rw [show k + (m + 1) - 1 = k + m by omega] at g2
        have hne : decide (k + (m + 1) = 0) = false := by simp
        rw [hne, Bool.false_or] at g2
        rw [show m + 1 - 1 = m by omega, s1, s2, s3, s4, r1, r2, r3, r4, g2]
        simp
  unfold pathB
  rw [h1, e1, e2, e3, show decide (b ≤ 10000) = true by simp; omega]
  rfl
/-- The ticks of a span. -/
theorem span_lo {q s fr b : Int} {l : List Stp} (hp : pathB q s fr b l = true) (_h : spanB q s fr b l = true) {k : Nat} (hk : k ≤ l.length) : 0 ≤ (spanOf q s fr b l k).1 := by
  unfold spanOf
  have hf := fwd_range hp k
  by_cases e : k = l.length
  · subst e; rw [Nat.sub_self]; exact hf.1
  · obtain ⟨j, hj⟩ : ∃ j, l.length - k = j + 1 := ⟨l.length - k - 1, by omega⟩
    rw [hj]
    simp only [bwdS]
    rw [show l.length - (j + 1) = k by omega]
    have := mxB_le (fwdS q s fr b l k).1 ((bwdS q s fr b l l.length j).1 - mostB s l k)
    omega
end Go.Proofs.Ytcheigbpoopjgaa

namespace Go.Proofs.Ytcheigbpoopjgaa
open Go.RowKit

theorem p7_big (a0 : Option Addr) (n ccap : Nat) (w : World) (hn : n ≤ maxLen) (hb : 1048576 < n) : Calls Try.prog 5 #[.slice a0 n ccap] w fun e w' => e = .returned (.bool true) ∧ Below w.heap.size w w' := by
  have h1 : (1048576 : Int) < (n : Int) := by omega
  unfold maxLen at hn
  have h2 : (n : Int) ≤ 9223372036854775807 := by omega
  go_enter Try.func5, Try.ntmps5
  go_wp2
  go_ret
  exact ⟨rfl, Below.refl _ _⟩

theorem own_slice {w : World} {base : Nat} {v : Value} {l : List Stp} (h : w.ownsRow base 61 7 v l.length (stepCells l)) : ∃ a b cap, v = .slice a l.length cap ∧ StepsAt w a b 0 l := by
  rcases h.2 with ⟨rfl, h0⟩ | ⟨g, cap, cur, rfl, _⟩
  · have : l = [] := List.eq_nil_of_length_eq_zero h0
    subst this
    exact ⟨none, 0, 0, rfl, ⟨fun h => absurd rfl h, fun h => absurd rfl h, fun i t hi => by simp at hi⟩⟩
  · exact ⟨some ⟨g, 0, none⟩, g, cap, rfl, steps_owned h⟩
theorem own_ints {w : World} {base : Nat} {v : Value} {zs : List Int} (h : w.ownsRow base 3 1 v zs.length (intCells zs)) : ∃ a b cap, v = .slice a zs.length cap ∧ IntsAt w a b 0 zs := by
  rcases h.2 with ⟨rfl, h0⟩ | ⟨g, cap, cur, rfl, _⟩
  · have : zs = [] := List.eq_nil_of_length_eq_zero h0
    subst this
    exact ⟨none, 0, 0, rfl, ⟨fun h => absurd rfl h, fun h => absurd rfl h, fun i t hi => by simp at hi⟩⟩
  · refine ⟨some ⟨g, 0, none⟩, g, cap, rfl, ⟨fun _ => rfl, fun _ => (h.lt g rfl).2, fun i z hi => ?_⟩⟩
    have hil := (List.getElem?_eq_some_iff.1 hi).1
    rw [Nat.zero_add]
    refine (h.cellAt i (by omega)).trans ?_
    simp [intCells, List.getElem?_map, hi]

/-- The ticks of the first flight are ticks. -/
theorem first_range {q s fr b : Int} {l : List Stp} {k : Nat} {z : Int} (h : ((flyL q s fr b l).map (·.1))[k]? = some z) : 0 ≤ z ∧ z ≤ 10000 := by
  unfold flyL at h
  split at h
  · rename_i hp
    unfold spansL at h
    split at h
    · rename_i hs
      rw [List.map_map, List.getElem?_map] at h
      obtain ⟨j, hj, rfl⟩ := Option.map_eq_some_iff.1 h
      have hj' := List.mem_range.1 (List.mem_of_getElem? hj)
      have h1 := span_lo hp hs (show j ≤ l.length by omega)
      refine ⟨h1, ?_⟩
      have hb := hs
      unfold spanB at hb
      have h2 := (Bool.and_eq_true_iff.1 hb).2
      simp only [bwdTo, List.all_eq_true, List.mem_range, someB, decide_eq_true_eq] at h2
      have h3 := h2 (l.length - j) (by omega)
      have h4 : (bwdS q s fr b l l.length (l.length - j)).2 ≤ 10000 := by
        have hf := fwd_range hp (l.length - (l.length - j))
        cases hm : l.length - j with
        | zero => rw [hm, Nat.sub_zero] at hf; simp only [bwdS]; exact hf.2
        | succ i =>
          rw [hm] at hf
          simp only [bwdS]
          have := mnB_le (fwdS q s fr b l (l.length - (i + 1))).2 ((bwdS q s fr b l l.length i).2 - q)
          omega
      show (bwdS q s fr b l l.length (l.length - j)).1 ≤ 10000
      omega
    · simp at h
  · simp at h

theorem shiftA_cases (q s fr b : Int) (l : List Stp) (d : Int) : (shiftB q s fr b l d = true ∧ shiftA q s fr b l d = { q := q, s := s, fr := fr + d, b := b + d, l := laterL d l, ok := true }) ∨ shiftA q s fr b l d = .no := by
  unfold shiftA
  cases h : shiftB q s fr b l d with
  | true => exact Or.inl ⟨rfl, rfl⟩
  | false => exact Or.inr rfl

set_option maxRecDepth 20000 in
set_option maxHeartbeats 8000000 in
theorem p7_any (hI : SpansSaid) (a0 : Option Addr) (cb co ccap : Nat) (zs0 : List Int) (w : World) (hz : BytesAt w a0 cb co zs0) (hl : zs0.length ≤ 1048576) (hc : zs0.length ≤ ccap) :
    Calls Try.prog 5 #[.slice a0 zs0.length ccap] w fun e w' => e = .returned (.bool true) ∧ Below w.heap.size w w' := by
  have h1 : ¬ (1048576 : Int) < (zs0.length : Int) := by omega
  go_enter Try.func5, Try.ntmps5
  go_wp2_with fail
  refine (shift_draw a0 cb co ccap zs0 w hz hl hc).mono ?_
  rintro e w1 ⟨q, s, fr, b, a, b0, o, cap, l, d, rfl, hll, hs1, ⟨hd1, hd2⟩, hb1⟩
  clear hz h1 hl hc
  have hl : l.length ≤ 1048575 := by omega
  have X1 := PathAt.new w1 q s fr b (.slice a l.length cap)
  have hsX := hs1.alloc (.cells #[.int .i64 q, .int .i64 s, .slice a l.length cap, .int .i64 fr, .int .i64 b] 27)
  have B1 : Below w.heap.size w (w1.alloc (.cells #[.int .i64 q, .int .i64 s, .slice a l.length cap, .int .i64 fr, .int .i64 b] 27)) := hb1.alloc hb1.size _
  clear hs1 hb1
  have hcs := shiftA_cases q s fr b l d
  have CI := fun W (hW : StepsAt W a b0 o l) => flyShiftI_any q s fr b d a b0 o cap l W (by omega) hW
  have CS := fun W (hW : StepsAt W a b0 o l) => flyShiftS_any q s fr b d a b0 o cap l W (by omega) hW
  generalize shiftA q s fr b l d = A at hcs CI CS
  have hAl : A.l.length ≤ 1048575 := by
    rcases hcs with ⟨_, rfl⟩ | rfl
    · show (laterL d l).length ≤ _; rw [laterL_length]; omega
    · simp [Ans.no]
  go_wp2_with fail
  refine (CI _ hsX).mono ?_
  rintro e w2 ⟨v2, rfl, ho2, hb2⟩
  obtain ⟨a2, j2, c2, hv2, hs2⟩ := own_slice ho2
  subst hv2
  have Y2 := PathAt.new w2 A.q A.s A.fr A.b (.slice a2 A.l.length c2)
  have al2 : Below w2.heap.size w2 (w2.alloc (.cells #[.int .i64 A.q, .int .i64 A.s, .slice a2 A.l.length c2, .int .i64 A.fr, .int .i64 A.b] 27)) := (Below.refl _ _).alloc (Nat.le_refl _) _
  have X2 := (X1.keep hb2 X1.lt).keep al2 (X1.keep hb2 X1.lt).lt
  have hsX2 := (hsX.below hb2 hsX.lt).below al2 (hsX.below hb2 hsX.lt).lt
  have B2 := (B1.trans (hb2.mono B1.size)).trans (al2.mono (B1.trans (hb2.mono B1.size)).size)
  have hsY2 := hs2.below al2 hs2.lt
  clear hb2 al2 X1 hsX B1 ho2 hs2 CI
  obtain ⟨⟨x0, x1, x2, x3, x4⟩, _⟩ := X2.cells
  go_wp2_with fail
  refine (CS _ hsX2).mono ?_
  rintro e w3 ⟨v3, rfl, ho3, hb3⟩
  obtain ⟨a3, j3, c3, hv3, hs3⟩ := own_slice ho3
  subst hv3
  have Z3 := PathAt.new w3 A.q A.s A.fr A.b (.slice a3 A.l.length c3)
  have al3 : Below w3.heap.size w3 (w3.alloc (.cells #[.int .i64 A.q, .int .i64 A.s, .slice a3 A.l.length c3, .int .i64 A.fr, .int .i64 A.b] 27)) := (Below.refl _ _).alloc (Nat.le_refl _) _
  have BA := hb3.trans (al3.mono hb3.size)
  have X3 := X2.keep BA X2.lt
  have hsX3 := hsX2.below BA hsX2.lt
  have Y3 := Y2.keep BA Y2.lt
  have hsY3 := hsY2.below BA hsY2.lt
  have B3 := B2.trans (BA.mono B2.size)
  have hsZ3 := hs3.below al3 hs3.lt
  clear hb3 al3 BA X2 hsX2 Y2 hsY2 B2 ho3 hs3 CS x0 x1 x2 x3 x4
  obtain ⟨⟨y0, y1, y2, y3, y4⟩, _⟩ := Y3.cells
  obtain ⟨⟨z0, z1, z2, z3, z4⟩, _⟩ := Z3.cells
  have nok : (A.ok != A.ok) = false := by simp
  go_wp2_with fail
  refine (wfPath_same A.q A.s A.fr A.b a2 a3 j2 0 c2 j3 0 c3 A.l _ (by omega) hsY3 hsZ3).mono ?_
  rintro e w4 ⟨rfl, hb4⟩
  have X4 := X3.keep hb4 X3.lt
  have hsX4 := hsX3.below hb4 hsX3.lt
  have Y4 := Y3.keep hb4 Y3.lt
  have hsY4 := hsY3.below hb4 hsY3.lt
  have B4 := B3.trans (hb4.mono B3.size)
  clear hb4 X3 hsX3 Y3 hsY3 B3 hsZ3 Z3 y0 y1 y2 y3 y4 z0 z1 z2 z3 z4
  generalize w1.heap.size = X at *
  generalize w2.heap.size = Y at *
  obtain ⟨⟨y0, y1, y2, y3, y4⟩, _⟩ := Y4.cells
  rcases hcs with ⟨hsh, rfl⟩ | rfl
  · clear nok
    have CB := fun W (hW : StepsAt W a2 j2 0 (laterL d l)) => flyShiftI_any q s (fr + d) (b + d) (-d) a2 j2 0 c2 (laterL d l) W (by rw [laterL_length]; omega) hW
    rw [shift_back hsh] at CB
    have hnd : IntKind.i64.wrap (-d) = -d := by rw [IntKind.wrap_i64]; omega
    simp only at y0 y1 y2 y3 y4 hsY4 Y4
    go_wp2_with fail
    refine (CB _ hsY4).mono ?_
    rintro e w5 ⟨v5, rfl, ho5, hb5⟩
    obtain ⟨a5, j5, c5, hv5, hs5⟩ := own_slice ho5
    subst hv5
    have K5 := PathAt.new w5 q s fr b (.slice a5 l.length c5)
    have al5 : Below w5.heap.size w5 (w5.alloc (.cells #[.int .i64 q, .int .i64 s, .slice a5 l.length c5, .int .i64 fr, .int .i64 b] 27)) := (Below.refl _ _).alloc (Nat.le_refl _) _
    have BA := hb5.trans (al5.mono hb5.size)
    have X5 := X4.keep BA X4.lt
    have hsX5 := hsX4.below BA hsX4.lt
    have Y5 := Y4.keep BA Y4.lt
    have hsY5 := hsY4.below BA hsY4.lt
    have B5 := B4.trans (BA.mono B4.size)
    have hsK5 := hs5.below al5 hs5.lt
    clear hb5 al5 BA X4 hsX4 Y4 hsY4 B4 ho5 hs5 CB y0 y1 y2 y3 y4
    have CF := fun W (hW : StepsAt W a b0 o l) => flyfirst_any hI q s fr b a b0 o cap l W hl hW
    have CG := fun W (hW : StepsAt W a2 j2 0 (laterL d l)) => flyfirst_any hI q s (fr + d) (b + d) a2 j2 0 c2 (laterL d l) W (by rw [laterL_length]; omega) hW
    rw [first_later hsh] at CG
    have hFl : ((flyL q s fr b l).map (·.1)).length ≤ 1048576 := by have := flyL_le q s fr b l; rw [List.length_map]; omega
    have hFr := fun (k : Nat) (z : Int) (h : ((flyL q s fr b l).map (·.1))[k]? = some z) => first_range h
    generalize (flyL q s fr b l).map (·.1) = F at CF CG hFl hFr
    simp only [List.length_map] at CG
    obtain ⟨⟨x0, x1, x2, x3, x4⟩, _⟩ := X5.cells
    go_wp2_with fail
    refine (CF _ hsX5).mono ?_
    rintro e w6 ⟨v6, rfl, ho6, hb6⟩
    obtain ⟨a6, j6, c6, hv6, hi6⟩ := own_ints ho6
    subst hv6
    have X6 := X5.keep hb6 X5.lt
    have hsX6 := hsX5.below hb6 hsX5.lt
    have Y6 := Y5.keep hb6 Y5.lt
    have hsY6 := hsY5.below hb6 hsY5.lt
    have K6 := K5.keep hb6 K5.lt
    have hsK6 := hsK5.below hb6 hsK5.lt
    have B6 := B5.trans (hb6.mono B5.size)
    clear hb6 X5 hsX5 Y5 hsY5 K5 hsK5 B5 ho6 CF x0 x1 x2 x3 x4
    obtain ⟨⟨y0, y1, y2, y3, y4⟩, _⟩ := Y6.cells
    go_wp2_with fail
    refine (CG _ hsY6).mono ?_
    rintro e w7 ⟨v7, rfl, ho7, hb7⟩
    have ho7' : w7.ownsRow w6.heap.size 3 1 v7 (F.map (· + d)).length (intCells (F.map (· + d))) := by rw [List.length_map]; exact ho7
    obtain ⟨a7, j7, c7, hv7, hi7⟩ := own_ints ho7'
    rw [List.length_map] at hv7
    subst hv7
    have X7 := X6.keep hb7 X6.lt
    have hsX7 := hsX6.below hb7 hsX6.lt
    have K7 := K6.keep hb7 K6.lt
    have hsK7 := hsK6.below hb7 hsK6.lt
    have hf7 := hi6.below hb7 hi6.lt
    have B7 := B6.trans (hb7.mono B6.size)
    clear hb7 X6 hsX6 Y6 hsY6 K6 hsK6 B6 ho7 ho7' CG hi6 y0 y1 y2 y3 y4
    obtain ⟨⟨x0, x1, x2, x3, x4⟩, _⟩ := X7.cells
    obtain ⟨⟨y0, y1, y2, y3, y4⟩, _⟩ := K7.cells
    have nlen : ((F.length : Int) != (F.length : Int)) = false := by simp
    go_wp2_with fail
    refine (wfPath_same q s fr b a5 a j5 0 c5 b0 o cap l _ (by omega) hsK7 hsX7).mono ?_
    rintro e w8 ⟨rfl, hb8⟩
    have hf8 := hf7.below hb8 hf7.lt
    have hg8 := hi7.below hb8 hi7.lt
    have B8 := B7.trans (hb8.mono B7.size)
    clear hb8 X7 hsX7 K7 hsK7 B7 hf7 hi7 x0 x1 x2 x3 x4 y0 y1 y2 y3 y4
    go_wp2
    clear nlen
    go_loopw [13] (fun s13 wr => ∃ k : Nat, s13 = .int .i64 (k : Int) ∧ k ≤ F.length ∧ Below w8.heap.size w8 wr) (fun s13 _ => F.length - (intOf s13).toNat)
    case atStart => exact ⟨0, rfl, by omega, Below.refl _ _⟩
    case round =>
      obtain ⟨k, rfl, hk, hb⟩ := hrel
      have k0 : (0 : Int) ≤ (k : Int) := by omega
      by_cases g1 : k < F.length
      · have k1 : (k : Int) < (F.length : Int) := by omega
        obtain ⟨z, hz⟩ : ∃ z, F[k]? = some z := ⟨_, List.getElem?_eq_getElem g1⟩
        obtain ⟨hz1, hz2⟩ := hFr k z hz
        have hne : F ≠ [] := by intro e; subst e; simp at g1
        have hne' : F.map (· + d) ≠ [] := by intro e; rw [List.map_eq_nil_iff] at e; exact hne e
        obtain rfl := hf8.here hne
        obtain rfl := hg8.here hne'
        have c0 := (hb.cell (p := ⟨j6, 0 + k, none⟩) (hf8.lt hne)).trans (hf8.cell k z hz)
        have c1 := (hb.cell (p := ⟨j7, 0 + k, none⟩) (hg8.lt hne')).trans (hg8.cell k (z + d) (by rw [List.getElem?_map, hz]; rfl))
        rw [Nat.zero_add] at c0 c1
        have wr0 : IntKind.i64.wrap (z + d) = z + d := by rw [IntKind.wrap_i64]; omega
        have ne0 : ((z + d) != (z + d)) = false := by simp
        have HB : Hid (Below w8.heap.size w8 wr) := hb
        clear hz hb
        go_wp2
        go_quiet (fail)
        go_wp2
        go_roundw
        case rel => exact ⟨k + 1, by simp, by omega, HB.out.trans ⟨rfl, rfl, rfl, Nat.le_refl _, fun _ _ => rfl⟩⟩
        case measure => simp [intOf]; omega
      · obtain rfl : k = F.length := by omega
        go_wp2
        go_ret
        exact ⟨rfl, B8.trans (hb.mono B8.size)⟩
  · clear nok
    go_wp2
    go_ret
    exact ⟨rfl, B4⟩
end Go.Proofs.Ytcheigbpoopjgaa

namespace Go.Proofs.Ytcheigbpoopjgaa
open Go.RowKit

/-- The method of a step that is a bound. -/
theorem method_step (nm : String) (h : Try.prog.underlying 81 = some (.interface #[(nm, 84)])) (t : Stp) (w : World) : (method 223 61 t.val nm).run Try.prog w = .ok (103, t.val) w := by
  rw [Try.underlying81] at h
  simp only [Option.some.injEq, TypeDesc.interface.injEq, Array.mk.injEq, List.cons.injEq, Prod.mk.injEq, and_true] at h
  subst h
  kernel_rfl
/-- The method of a path's end that is a bound. -/
theorem method_end (nm : String) (h : Try.prog.underlying 81 = some (.interface #[(nm, 84)])) (fr b : Int) (w : World) : (method 223 103 (.agg #[.int .i64 fr, .int .i64 b]) nm).run Try.prog w = .ok (104, .agg #[.int .i64 fr, .int .i64 b]) w := by
  rw [Try.underlying81] at h
  simp only [Option.some.injEq, TypeDesc.interface.injEq, Array.mk.injEq, List.cons.injEq, Prod.mk.injEq, and_true] at h
  subst h
  kernel_rfl
end Go.Proofs.Ytcheigbpoopjgaa

namespace Go.Proofs.Ytcheigbpoopjgaa
open Go.RowKit

/-- The windows of the first k places. -/
def winL (fr b : Int) (l : List Stp) (k : Nat) : List (Int × Int) := (List.range k).map fun i => (lowB fr l i, highB b l i)
theorem winL_succ (fr b : Int) (l : List Stp) (k : Nat) : winL fr b l (k + 1) = winL fr b l k ++ [(lowB fr l k, highB b l k)] := by simp [winL, List.range_succ]

theorem span_info2 : (Try.prog.info? 38).map (fun i => (i.zero, i.size, i.bytes)) = some (some (.agg #[.int .i64 0, .int .i64 0]), 2, 16) := by kernel_rfl

set_option maxRecDepth 20000 in
set_option maxHeartbeats 2000000 in
theorem winds_any (q s fr b : Int) (a : Option Addr) (b0 o cap : Nat) (l : List Stp) (w : World) (hl : l.length ≤ 1048576) (hs : StepsAt w a b0 o l) :
    Calls Try.prog 29 #[.agg #[.int .i64 q, .int .i64 s, .slice a l.length cap, .int .i64 fr, .int .i64 b]] w
      fun e w' => ∃ v, e = .returned v ∧ w'.ownsRow w.heap.size 38 2 v (l.length + 1) (spanCells (winL fr b l (l.length + 1))) ∧ Below w.heap.size w w' := by
  obtain ⟨i0, hi, hz0, hz1, hz2⟩ := info_parts span_info2
  go_enter Try.func29, Try.ntmps29
  go_wp2_with fail
  refine (bounds_any _ _ _ _ _ b0 o _ _ _ hl (hs.alloc _)).mono ?_
  rintro e w1 ⟨v, rfl, hown, hb1⟩
  have hB1 := (BoxP.new w q s fr b (.slice a l.length cap) 27).below hb1
  obtain ⟨g, vcap, rfl, _, hg⟩ := owns_some hown (by omega)
  have HX : Hid (∀ j, j < l.length + 1 → w1.cell? ⟨g, j, none⟩ = (bndTo l l.length ++ [Value.iface 103 (.agg #[.int .i64 fr, .int .i64 b])])[j]?) := fun j hj => hown.cellAt j (by omega)
  clear hown hb1
  go_wp2
  go_loopw [3, 11] (fun v u wr => ∃ k : Nat, k ≤ l.length + 1 ∧ u = .int .i64 k ∧ Below w1.heap.size w1 wr ∧ wr.ownsRow w1.heap.size 38 2 v k (spanCells (winL fr b l k))) (fun _ u _ => l.length + 1 - (intOf u).toNat)
  case atStart => exact ⟨0, Nat.zero_le _, rfl, Below.refl _ _, World.ownsRow_nil _ _ _ _⟩
  case round =>
    obtain ⟨k, hk, rfl, hb, hown⟩ := hrel
    by_cases hlt : k < l.length + 1
    · have hcell : wr.cell? ⟨g, k, none⟩ = _ := (hb.cell (p := ⟨g, k, none⟩) hg).trans (HX.out k hlt)
      have hz := hb.size
      by_cases hkl : k < l.length
      · have e1 : (bndTo l l.length ++ [Value.iface 103 (.agg #[.int .i64 fr, .int .i64 b])])[k]? = some (stepV (l.getD k .zero)) := by
          rw [List.getElem?_append_left (by rw [bndTo_length]; exact hkl)]
          simp [bndTo, hkl]
        rw [e1] at hcell
        obtain ⟨t, ht⟩ : ∃ t, l.getD k .zero = t := ⟨_, rfl⟩
        rw [ht] at hcell
        clear e1
        have hm := method_step _ Try.underlying81 t
        have HE : Hid (winL fr b l (k + 1) = winL fr b l k ++ [(t.fr, t.by_)]) := by show _ = _; rw [winL_succ]; unfold lowB highB; rw [if_pos hkl, if_pos hkl, ht]
        clear ht
        go_wp2_with (first
          | (go_at_call 103; refine (windowS_any _ _ _ _ _ _ _ _).mono ?_; rintro e w2 ⟨rfl, hb2⟩)
          | (at_builtin; (refine wpList_append_own _ rfl _ _ 31 rfl w1.heap.size 38 i0 (.agg #[.int .i64 0, .int .i64 0]) 2 16 Try.underlying31 hi hz0 hz1 hz2 rfl (by decide) _ _ _ rfl ((owns_below hown hb2).alloc _) ⟨w2.heap.size, 0, none⟩ 1 1 [.int .i64 t.fr, .int .i64 t.by_] rfl rfl (two_new _ _ _ _) (by simp [Value.oneCell']) (by unfold maxLen; omega) (by omega) (by have := hb2.size; simp; omega) ?_); intro v' w3 hown' hgrow _))
        have hbel : Below w1.heap.size wr w3 := ((hb2.mono hz).alloc (by have := hb2.size; omega) _).grown hgrow (by have := hb2.size; simp; omega) (owns_base hown)
        go_roundw
        case rel =>
          refine ⟨k + 1, by omega, by go_num, hb.trans hbel, ?_⟩
          rw [HE.out, spanCells_snoc]
          exact hown'
        case measure => simp [intOf]; omega
      · have e1 : (bndTo l l.length ++ [Value.iface 103 (.agg #[.int .i64 fr, .int .i64 b])])[k]? = some (Value.iface 103 (.agg #[.int .i64 fr, .int .i64 b])) := by
          rw [List.getElem?_append_right (by rw [bndTo_length]; omega), bndTo_length, show k - l.length = 0 by omega]
          rfl
        rw [e1] at hcell
        clear e1
        have hm := method_end _ Try.underlying81 fr b
        have HE : Hid (winL fr b l (k + 1) = winL fr b l k ++ [(fr, b)]) := by show _ = _; rw [winL_succ]; unfold lowB highB; rw [if_neg hkl, if_neg hkl]
        go_wp2_with (first
          | (go_at_call 104; refine (windowE_any _ _ _).mono ?_; rintro e w2 ⟨rfl, hb2⟩)
          | (at_builtin; (refine wpList_append_own _ rfl _ _ 31 rfl w1.heap.size 38 i0 (.agg #[.int .i64 0, .int .i64 0]) 2 16 Try.underlying31 hi hz0 hz1 hz2 rfl (by decide) _ _ _ rfl ((owns_below hown hb2).alloc _) ⟨w2.heap.size, 0, none⟩ 1 1 [.int .i64 fr, .int .i64 b] rfl rfl (two_new _ _ _ _) (by simp [Value.oneCell']) (by unfold maxLen; omega) (by omega) (by have := hb2.size; simp; omega) ?_); intro v' w3 hown' hgrow _))
        have hbel : Below w1.heap.size wr w3 := ((hb2.mono hz).alloc (by have := hb2.size; omega) _).grown hgrow (by have := hb2.size; simp; omega) (owns_base hown)
        go_roundw
        case rel =>
          refine ⟨k + 1, by omega, by go_num, hb.trans hbel, ?_⟩
          rw [HE.out, spanCells_snoc]
          exact hown'
        case measure => simp [intOf]; omega
    · obtain rfl : k = l.length + 1 := by omega
      have hz := hB1.old.size
      go_wp2
      go_ret
      exact ⟨_, rfl, ⟨hown.1, hown.2.imp id fun ⟨g, cap, cur, h1, h2, h3⟩ => ⟨g, cap, cur, h1, by omega, h3⟩⟩, hB1.old.trans (hb.mono hB1.old.size)⟩
end Go.Proofs.Ytcheigbpoopjgaa

namespace Go.Proofs.Ytcheigbpoopjgaa
open Go.RowKit Go.Shelf
attribute [local go_sem] Oper.semAt_some

/-- A step of a list, with its place. -/
abbrev El (l : List Stp) : Type := { x : Nat × Stp // l[x.1]? = some x.2 }
/-- The first k steps, each with its place. -/
def allE (l : List Stp) : Nat → List (El l)
  | 0 => []
  | k + 1 => allE l k ++ (match h : l[k]? with | some t => [⟨(k, t), h⟩] | none => [])
theorem allE_succ {l : List Stp} {k : Nat} {t : Stp} (h : l[k]? = some t) : allE l (k + 1) = allE l k ++ [⟨(k, t), h⟩] := by
  show allE l k ++ (match h : l[k]? with | some t => [⟨(k, t), h⟩] | none => []) = _
  congr 1
  split
  · rename_i u hu
    rw [h] at hu
    cases hu
    rfl
  · rename_i hu
    rw [h] at hu
    cases hu
theorem allE_length (l : List Stp) : ∀ k, k ≤ l.length → (allE l k).length = k
  | 0, _ => rfl
  | k + 1, hk => by
    rw [allE_succ (t := l[k]) (List.getElem?_eq_getElem (by omega)), List.length_append, allE_length l k (by omega)]; rfl
/-- The last k steps, from the last one on. -/
def backE (l : List Stp) : Nat → List (El l)
  | 0 => []
  | k + 1 => backE l k ++ (match h : l[l.length - 1 - k]? with | some t => [⟨(l.length - 1 - k, t), h⟩] | none => [])
theorem backE_succ {l : List Stp} {k m : Nat} {t : Stp} (hm : l.length - 1 - k = m) (h : l[m]? = some t) : backE l (k + 1) = backE l k ++ [⟨(m, t), h⟩] := by
  subst hm
  show backE l k ++ (match h : l[l.length - 1 - k]? with | some t => [⟨(l.length - 1 - k, t), h⟩] | none => []) = _
  congr 1
  split
  · rename_i u hu
    rw [h] at hu
    cases hu
    rfl
  · rename_i hu
    rw [h] at hu
    cases hu
theorem backE_length (l : List Stp) : ∀ k, k ≤ l.length → (backE l k).length = k
  | 0, _ => rfl
  | k + 1, hk => by
    rw [backE_succ (t := l[l.length - 1 - k]) rfl (List.getElem?_eq_getElem (by omega)), List.length_append, backE_length l k (by omega)]; rfl

/-- All blocks below n₀ but g lie as they lay. -/
structure KeepX (n₀ g : Nat) (A B : World) : Prop where
  size : A.heap.size ≤ B.heap.size
  block : ∀ i, i < n₀ → i ≠ g → B.heap[i]? = A.heap[i]?
theorem KeepX.refl (n₀ g : Nat) (A : World) : KeepX n₀ g A A := ⟨Nat.le_refl _, fun _ _ _ => rfl⟩
theorem KeepX.trans {n₀ g : Nat} {A B C : World} (h : KeepX n₀ g A B) (k : KeepX n₀ g B C) : KeepX n₀ g A C := ⟨Nat.le_trans h.size k.size, fun i hi hg => (k.block i hi hg).trans (h.block i hi hg)⟩
theorem KeepX.of_below {n₀ g : Nat} {A B : World} (h : Below n₀ A B) : KeepX n₀ g A B := ⟨h.size, fun i hi _ => h.block i hi⟩
theorem KeepX.cell {n₀ g : Nat} {A B : World} (h : KeepX n₀ g A B) {p : Addr} (hp : p.block < n₀) (hg : p.block ≠ g) : B.cell? p = A.cell? p := World.cell?_of_block (h.block p.block hp hg)
theorem KeepX.putObj {n₀ g : Nat} {w : World} (hn : n₀ ≤ w.heap.size) (W : World) (l : Nat) (o o' : Obj) (hl : w.heap.size ≤ l) (_ : W.heap[l]? = some o) (_ : o.isCells = false) (_ : o.isWalk = false) : KeepX n₀ g W (W.putObj l o') :=
  ⟨by simp, fun i hi _ => World.putObj_heap_other (by omega)⟩
theorem StepsAt.keepX {w w' : World} {a : Option Addr} {b o n₀ g : Nat} {l : List Stp} (h : StepsAt w a b o l) (hb : KeepX n₀ g w w') (hB : l ≠ [] → b < n₀ ∧ b ≠ g) : StepsAt w' a b o l where
  here := h.here
  lt hl := Nat.lt_of_lt_of_le (h.lt hl) hb.size
  cell i s hi j v hv := by
    have hne : l ≠ [] := by intro e; subst e; simp at hi
    rw [hb.cell (p := ⟨b, o + i * 7 + j, none⟩) (hB hne).1 (hB hne).2]
    exact h.cell i s hi j v hv

abbrev encA {l : List Stp} (x : El l) : Array Value := #[.int .i64 (x.1.1 : Int), x.1.2.val]

set_option maxRecDepth 100000 in
set_option maxHeartbeats 2000000 in
theorem all1_in (n : Nat) (hn : 1 ≤ n) (lp Bs n₀ b0 o cap : Nat) (a : Option Addr) (l : List Stp) (hl : l.length ≤ 1048576) (gr : Nat) (hBs : Bs < n₀ ∧ Bs ≠ gr) (hb0 : l ≠ [] → b0 < n₀ ∧ b0 ≠ gr) (J Jx : List (El l) → World → Prop) (hJ : ∀ s A A', J s A → A.grownBy A' none → J s A')
    (hY : ∀ pre x W, J pre W → pre.length < l.length → YieldAt Fence.wide (n - 1) Try.prog lp (encA x) W fun e W' =>
      (e = .returned (.bool true) ∧ J (pre ++ [x]) W' ∧ KeepX n₀ gr W W') ∨ (e = .returned (.bool false) ∧ Jx (pre ++ [x]) W'))
    (W : World) (hn₀ : n₀ ≤ W.heap.size) (hc : W.cell? ⟨Bs, 0, none⟩ = some (.slice a l.length cap)) (hs : StepsAt W a b0 o l) (h0 : J [] W) :
    CallsIn Fence.wide n Try.prog 65 #[.func (.yield lp) #[] #[], .pointer (some ⟨Bs, 0, none⟩)] W fun e W' => (∃ v, e = .returned v) ∧
      ((∃ ys, ys = allE l l.length ∧ J ys W') ∨ (∃ pre, (∃ k, k ≤ l.length ∧ pre = allE l k) ∧ Jx pre W')) := by
  refine callsIn_of_wp Try.func65 rfl trivial ?_ rfl
  simp only [Try.ntmps65, List.size_toArray, List.length_cons, List.length_nil, Nat.reduceAdd, Nat.reduceSub, Array.replicate_succ, Array.replicate_zero, List.push_toArray, List.append_toArray, List.nil_append, List.cons_append]
  gi_wp2
  gi_loopw [7] (fun i wr => ∃ k : Nat, k ≤ l.length ∧ i = .int .i64 (k : Int) ∧ J (allE l k) wr ∧ KeepX n₀ gr W wr) (fun i _ => l.length - (intOf i).toNat)
  case atStart => exact ⟨0, Nat.zero_le _, rfl, h0, KeepX.refl _ _ _⟩
  case round =>
    obtain ⟨k, hk, rfl, hJs, hnx⟩ := hrel
    have hcx := (hnx.cell (p := ⟨Bs, 0, none⟩) hBs.1 hBs.2).trans hc
    by_cases hlt : k < l.length
    · obtain ⟨t, htk⟩ : ∃ t, l[k]? = some t := ⟨l[k], List.getElem?_eq_getElem hlt⟩
      have hne : l ≠ [] := by intro e; subst e; simp at hlt
      obtain rfl := hs.here hne
      have hs' := hs.keepX hnx hb0
      obtain ⟨d0, d1, d2, d3, d4, d5, d6⟩ := hs'.seven htk
      have HP : Hid (allE l (k + 1) = allE l k ++ [⟨(k, t), htk⟩]) := allE_succ htk
      have hga : wr.grownBy (wr.alloc (.cells #[.int .i64 t.x, .int .i64 t.y, .int .i64 t.lo, .int .i64 t.hi, .int .i64 t.fr, .int .i64 t.by_, .bool t.ho] 61)) none :=
        ⟨rfl, rfl, rfl, by simp, fun j hj _ => Below.heap_alloc wr _ j hj⟩
      have hba : KeepX n₀ gr W (wr.alloc (.cells #[.int .i64 t.x, .int .i64 t.y, .int .i64 t.lo, .int .i64 t.hi, .int .i64 t.fr, .int .i64 t.by_, .bool t.ho] 61)) := hnx.trans ⟨by simp, fun i hi _ => Below.heap_alloc wr _ i (by have := hnx.size; omega)⟩
      obtain ⟨fn, tmps, assign, body, hy, hR⟩ := hY _ ⟨(k, t), htk⟩ _ (hJ _ _ _ hJs hga) (by rw [allE_length l k hk]; omega)
      dsimp only [encA] at hy
      have hR' := hR.mono (R' := fun e W' => ∃ bb : Bool, e = .returned (.bool bb) ∧ ((bb = true ∧ J (allE l k ++ [⟨(k, t), htk⟩]) W' ∧ KeepX n₀ gr (wr.alloc (.cells #[.int .i64 t.x, .int .i64 t.y, .int .i64 t.lo, .int .i64 t.hi, .int .i64 t.fr, .int .i64 t.by_, .bool t.ho] 61)) W') ∨ (bb = false ∧ Jx (allE l k ++ [⟨(k, t), htk⟩]) W'))) (by
        rintro e W' (⟨h1, h2, h3⟩ | ⟨h1, h2⟩)
        · exact ⟨true, h1, .inl ⟨rfl, h2, h3⟩⟩
        · exact ⟨false, h1, .inr ⟨rfl, h2⟩⟩)
      clear hs' hY hR
      have k0 : (0 : Int) ≤ (k : Int) := by omega
      have k1 : (k : Int) < (l.length : Int) := by omega
      gi_wp2_with (refine hR'.mono ?_; rintro e W3 ⟨bb, rfl, hor⟩)
      all_goals rename_i hbb
      · refine bodyPost_ret (results_none rfl _ _ _) rfl ?_
        rcases hor with ⟨rfl, hJ3, hk3⟩ | ⟨rfl, hJx3⟩
        · cases hbb
        · exact ⟨⟨_, rfl⟩, .inr ⟨_, ⟨k + 1, by omega, HP.out.symm⟩, hJx3⟩⟩
      · rcases hor with ⟨rfl, hJ3, hk3⟩ | ⟨rfl, hJx3⟩
        · exact ⟨⟨k + 1, by omega, by go_num, by rw [HP.out]; exact hJ3, hba.trans hk3⟩, by simp [intOf]; omega⟩
        · cases hbb
    · obtain rfl : k = l.length := by omega
      gi_wp2
      go_end0
      exact ⟨⟨_, rfl⟩, .inl ⟨_, rfl, hJs⟩⟩
set_option maxRecDepth 100000 in
set_option maxHeartbeats 2000000 in
theorem back1_in (n : Nat) (hn : 1 ≤ n) (lp Bs n₀ b0 o cap : Nat) (a : Option Addr) (l : List Stp) (hl : l.length ≤ 1048576) (gr : Nat) (hBs : Bs < n₀ ∧ Bs ≠ gr) (hb0 : l ≠ [] → b0 < n₀ ∧ b0 ≠ gr) (J Jx : List (El l) → World → Prop)
    (hY : ∀ pre x W, J pre W → pre.length < l.length → YieldAt Fence.wide (n - 1) Try.prog lp (encA x) W fun e W' =>
      (e = .returned (.bool true) ∧ J (pre ++ [x]) W' ∧ KeepX n₀ gr W W') ∨ (e = .returned (.bool false) ∧ Jx (pre ++ [x]) W'))
    (W : World) (hc : W.cell? ⟨Bs, 0, none⟩ = some (.slice a l.length cap)) (hs : StepsAt W a b0 o l) (h0 : J [] W) :
    CallsIn Fence.wide n Try.prog 67 #[.func (.yield lp) #[] #[], .pointer (some ⟨Bs, 0, none⟩)] W fun e W' => (∃ v, e = .returned v) ∧
      ((∃ ys, ys = backE l l.length ∧ J ys W') ∨ (∃ pre, (∃ k, k ≤ l.length ∧ pre = backE l k) ∧ Jx pre W')) := by
  refine callsIn_of_wp Try.func67 rfl trivial ?_ rfl
  simp only [Try.ntmps67, List.size_toArray, List.length_cons, List.length_nil, Nat.reduceAdd, Nat.reduceSub, Array.replicate_succ, Array.replicate_zero, List.push_toArray, List.append_toArray, List.nil_append, List.cons_append]
  gi_wp2
  gi_loopw [3] (fun i wr => ∃ k : Nat, k ≤ l.length ∧ i = .int .i64 (((l.length - k : Nat) : Int) - 1) ∧ J (backE l k) wr ∧ KeepX n₀ gr W wr) (fun i _ => (intOf i + 1).toNat)
  case atStart => exact ⟨0, Nat.zero_le _, by rw [Nat.sub_zero], h0, KeepX.refl _ _ _⟩
  case round =>
    obtain ⟨k, hk, rfl, hJs, hnx⟩ := hrel
    have hcx := (hnx.cell (p := ⟨Bs, 0, none⟩) hBs.1 hBs.2).trans hc
    by_cases hlt : k < l.length
    · obtain ⟨t, htk⟩ : ∃ t, l[l.length - 1 - k]? = some t := ⟨l[l.length - 1 - k], List.getElem?_eq_getElem (by omega)⟩
      have hne : l ≠ [] := by intro e; subst e; simp at hlt
      obtain rfl := hs.here hne
      have hs' := hs.keepX hnx hb0
      obtain ⟨m, hm, hm2⟩ : ∃ m, l.length - 1 - k = m ∧ l.length - k = m + 1 := ⟨l.length - 1 - k, rfl, by omega⟩
      rw [hm] at htk
      have e0 : ((l.length - k : Nat) : Int) - 1 = (m : Int) := by omega
      rw [e0]
      obtain ⟨d0, d1, d2, d3, d4, d5, d6⟩ := hs'.seven htk
      have HP : Hid (backE l (k + 1) = backE l k ++ [⟨(m, t), htk⟩]) := backE_succ hm htk
      obtain ⟨fn, tmps, assign, body, hy, hR⟩ := hY _ ⟨(m, t), htk⟩ wr hJs (by rw [backE_length l k hk]; omega)
      dsimp only [encA] at hy
      have hR' := hR.mono (R' := fun e W' => ∃ bb : Bool, e = .returned (.bool bb) ∧ ((bb = true ∧ J (backE l k ++ [⟨(m, t), htk⟩]) W' ∧ KeepX n₀ gr wr W') ∨ (bb = false ∧ Jx (backE l k ++ [⟨(m, t), htk⟩]) W'))) (by
        rintro e W' (⟨h1, h2, h3⟩ | ⟨h1, h2⟩)
        · exact ⟨true, h1, .inl ⟨rfl, h2, h3⟩⟩
        · exact ⟨false, h1, .inr ⟨rfl, h2⟩⟩)
      clear hs' hY hR
      have k0 : (0 : Int) ≤ (m : Int) := by omega
      have k1 : (m : Int) < (l.length : Int) := by omega
      gi_wp2_with (refine hR'.mono ?_; rintro e W3 ⟨bb, rfl, hor⟩)
      all_goals rename_i hbb
      · refine bodyPost_ret (results_none rfl _ _ _) rfl ?_
        rcases hor with ⟨rfl, hJ3, hk3⟩ | ⟨rfl, hJx3⟩
        · cases hbb
        · exact ⟨⟨_, rfl⟩, .inr ⟨_, ⟨k + 1, by omega, HP.out.symm⟩, hJx3⟩⟩
      · rcases hor with ⟨rfl, hJ3, hk3⟩ | ⟨rfl, hJx3⟩
        · exact ⟨⟨k + 1, by omega, by rw [show l.length - (k + 1) = m by omega], by rw [HP.out]; exact hJ3, hnx.trans hk3⟩, by simp [intOf]⟩
        · cases hbb
    · obtain rfl : k = l.length := by omega
      rw [Nat.sub_self]
      gi_wp2
      go_end0
      exact ⟨⟨_, rfl⟩, .inl ⟨_, rfl, hJs⟩⟩

theorem all_any (a : Option Addr) (len cap : Nat) (w : World) :
    Calls Try.prog 31 #[.slice a len cap] w fun e w' => e = .returned (.func (.func 65) #[] #[.pointer (some ⟨w.heap.size, 0, none⟩)]) ∧ w' = w.alloc (.cells #[.slice a len cap] 25) := by
  go_enter Try.func31, Try.ntmps31
  go_wp2
  go_ret
  exact ⟨rfl, rfl⟩
theorem backw_any (a : Option Addr) (len cap : Nat) (w : World) :
    Calls Try.prog 33 #[.slice a len cap] w fun e w' => e = .returned (.func (.func 67) #[] #[.pointer (some ⟨w.heap.size, 0, none⟩)]) ∧ w' = w.alloc (.cells #[.slice a len cap] 25) := by
  go_enter Try.func33, Try.ntmps33
  go_wp2
  go_ret
  exact ⟨rfl, rfl⟩

theorem all_stops (n : Nat) (hn : 1 ≤ n) (Bs n₀ b0 o cap gr : Nat) (a : Option Addr) (l : List Stp) (hl : l.length ≤ 1048576) (w : World) (hBs : Bs < n₀ ∧ Bs ≠ gr) (hn₀ : n₀ ≤ w.heap.size)
    (hc : w.cell? ⟨Bs, 0, none⟩ = some (.slice a l.length cap)) (hs : StepsAt w a b0 o l) (hb0 : l ≠ [] → b0 < n₀ ∧ b0 ≠ gr) :
    SeqStopsK Fence.wide n Try.prog 65 #[.pointer (some ⟨Bs, 0, none⟩)] encA (KeepX n₀ gr) (fun ys => ys = allE l l.length) (fun pre => ∃ k, k ≤ l.length ∧ pre = allE l k) l.length w := fun lp J Jx W hW hJ _ hY h0 =>
  all1_in n hn lp Bs n₀ b0 o cap a l hl gr hBs hb0 J Jx (fun s A A' h hg => hJ s A A' none h hg (fun r e => by cases e)) hY W (Nat.le_trans hn₀ hW.size)
    ((hW.cell (p := ⟨Bs, 0, none⟩) (Nat.lt_of_lt_of_le hBs.1 hn₀)).trans hc) (hs.below hW (fun h => Nat.lt_of_lt_of_le (hb0 h).1 hn₀)) h0
theorem back_stops (n : Nat) (hn : 1 ≤ n) (Bs n₀ b0 o cap gr : Nat) (a : Option Addr) (l : List Stp) (hl : l.length ≤ 1048576) (w : World) (hBs : Bs < n₀ ∧ Bs ≠ gr) (hn₀ : n₀ ≤ w.heap.size)
    (hc : w.cell? ⟨Bs, 0, none⟩ = some (.slice a l.length cap)) (hs : StepsAt w a b0 o l) (hb0 : l ≠ [] → b0 < n₀ ∧ b0 ≠ gr) :
    SeqStopsK Fence.wide n Try.prog 67 #[.pointer (some ⟨Bs, 0, none⟩)] encA (KeepX n₀ gr) (fun ys => ys = backE l l.length) (fun pre => ∃ k, k ≤ l.length ∧ pre = backE l k) l.length w := fun lp J Jx W hW _ _ hY h0 =>
  back1_in n hn lp Bs n₀ b0 o cap a l hl gr hBs hb0 J Jx hY W
    ((hW.cell (p := ⟨Bs, 0, none⟩) (Nat.lt_of_lt_of_le hBs.1 hn₀)).trans hc) (hs.below hW (fun h => Nat.lt_of_lt_of_le (hb0 h).1 hn₀)) h0
end Go.Proofs.Ytcheigbpoopjgaa

namespace Go.Proofs.Ytcheigbpoopjgaa
open Go.RowKit

/-- What a step does to when it is entered, and when it is left: forward, or back. -/
def tightB (d : Bool) (q mo : Int) (e lf : Int × Int) : (Int × Int) × (Int × Int) :=
  if d then (e, (mxB lf.1 (e.1 + q), mnB lf.2 (e.2 + mo))) else ((mxB e.1 (lf.1 - mo), mnB e.2 (lf.2 - q)), lf)
def stayMost (s : Int) (t : Stp) : Int := if t.ho then 10000 else s
def tightR (d : Bool) (q s : Int) (r : List (Int × Int)) (x : Nat × Stp) : (Int × Int) × (Int × Int) := tightB d q (stayMost s x.2) (r.getD x.1 (0, 0)) (r.getD (x.1 + 1) (0, 0))
def rowStep (d : Bool) (q s : Int) (r : List (Int × Int)) (x : Nat × Stp) : List (Int × Int) := (r.set x.1 (tightR d q s r x).1).set (x.1 + 1) (tightR d q s r x).2
def okStep (d : Bool) (q s : Int) (r : List (Int × Int)) (x : Nat × Stp) : Bool := someB (tightR d q s r x).1 && someB (tightR d q s r x).2
/-- The row, and whether nothing was left empty. -/
def foldW (d : Bool) (q s : Int) {l : List Stp} (r : List (Int × Int)) (pre : List (El l)) : List (Int × Int) × Bool := pre.foldl (fun a x => (rowStep d q s a.1 x.1, a.2 && okStep d q s a.1 x.1)) (r, true)

theorem foldW_snoc (d : Bool) (q s : Int) {l : List Stp} (r : List (Int × Int)) (pre : List (El l)) (x : El l) :
    foldW d q s r (pre ++ [x]) = (rowStep d q s (foldW d q s r pre).1 x.1, (foldW d q s r pre).2 && okStep d q s (foldW d q s r pre).1 x.1) := by
  simp [foldW, List.foldl_append]
theorem fold_off (d : Bool) (q s : Int) {l : List Stp} : ∀ (post : List (El l)) (a : List (Int × Int) × Bool), a.2 = false → (post.foldl (fun a x => (rowStep d q s a.1 x.1, a.2 && okStep d q s a.1 x.1)) a).2 = false
  | [], _, h => h
  | x :: r, a, h => fold_off d q s r _ (by show (a.2 && _) = false; rw [h]; rfl)
theorem foldW_off (d : Bool) (q s : Int) {l : List Stp} (r : List (Int × Int)) (pre post : List (El l)) (h : (foldW d q s r pre).2 = false) : (foldW d q s r (pre ++ post)).2 = false := by
  unfold foldW
  rw [List.foldl_append]
  exact fold_off d q s post _ h

/-- A row of n + 1 spans, none of them empty, all within 0 and 10000. -/
structure GoodRow (n : Nat) (r : List (Int × Int)) : Prop where
  len : r.length = n + 1
  at_ : ∀ (i : Nat) (x : Int × Int), r[i]? = some x → 0 ≤ x.1 ∧ x.1 ≤ x.2 ∧ x.2 ≤ 10000
theorem GoodRow.getD {n : Nat} {r : List (Int × Int)} (h : GoodRow n r) {i : Nat} (hi : i ≤ n) : r[i]? = some (r.getD i (0, 0)) := by
  rw [List.getD_eq_getElem?_getD, List.getElem?_eq_getElem (by rw [h.len]; omega)]; rfl
theorem GoodRow.tight {n : Nat} {r : List (Int × Int)} (h : GoodRow n r) {d : Bool} {q s : Int} {x : Nat × Stp} (hx : x.1 < n) (hok : okStep d q s r x = true) :
    (0 ≤ (tightR d q s r x).1.1 ∧ (tightR d q s r x).1.1 ≤ (tightR d q s r x).1.2 ∧ (tightR d q s r x).1.2 ≤ 10000) ∧ (0 ≤ (tightR d q s r x).2.1 ∧ (tightR d q s r x).2.1 ≤ (tightR d q s r x).2.2 ∧ (tightR d q s r x).2.2 ≤ 10000) := by
  have h1 := h.at_ _ _ (h.getD (show x.1 ≤ n by omega))
  have h2 := h.at_ _ _ (h.getD (show x.1 + 1 ≤ n by omega))
  unfold okStep at hok
  simp only [someB, Bool.and_eq_true, decide_eq_true_eq] at hok
  unfold tightR tightB at *
  cases d with
  | true =>
    simp only [if_true] at *
    have m1 := mxB_le (r.getD (x.1 + 1) (0, 0)).1 ((r.getD x.1 (0, 0)).1 + q)
    have m2 := mnB_le (r.getD (x.1 + 1) (0, 0)).2 ((r.getD x.1 (0, 0)).2 + stayMost s x.2)
    omega
  | false =>
    simp only [Bool.false_eq_true, if_false] at *
    have m1 := mxB_le (r.getD x.1 (0, 0)).1 ((r.getD (x.1 + 1) (0, 0)).1 - stayMost s x.2)
    have m2 := mnB_le (r.getD x.1 (0, 0)).2 ((r.getD (x.1 + 1) (0, 0)).2 - q)
    omega
theorem GoodRow.step {n : Nat} {r : List (Int × Int)} (h : GoodRow n r) {d : Bool} {q s : Int} {x : Nat × Stp} (hx : x.1 < n) (hok : okStep d q s r x = true) : GoodRow n (rowStep d q s r x) where
  len := by unfold rowStep; rw [List.length_set, List.length_set]; exact h.len
  at_ i y hy := by
    obtain ⟨t1, t2⟩ := h.tight hx hok
    unfold rowStep at hy
    by_cases e2 : x.1 + 1 = i
    · subst e2
      rw [List.getElem?_set_self (by rw [List.length_set, h.len]; omega)] at hy
      cases hy
      exact t2
    · rw [List.getElem?_set_ne e2] at hy
      by_cases e1 : x.1 = i
      · subst e1
        rw [List.getElem?_set_self (by rw [h.len]; omega)] at hy
        cases hy
        exact t1
      · rw [List.getElem?_set_ne e1] at hy
        exact h.at_ i y hy

/-- The row when k steps are walked forward. -/
def mixL (q s fr b : Int) (l : List Stp) (k : Nat) : List (Int × Int) := (List.range (l.length + 1)).map fun i => if i ≤ k then fwdS q s fr b l i else (lowB fr l i, highB b l i)
theorem mixL_length (q s fr b : Int) (l : List Stp) (k : Nat) : (mixL q s fr b l k).length = l.length + 1 := by simp [mixL]
theorem mixL_get (q s fr b : Int) (l : List Stp) (k i : Nat) (h : i < l.length + 1) : (mixL q s fr b l k)[i]? = some (if i ≤ k then fwdS q s fr b l i else (lowB fr l i, highB b l i)) := by simp [mixL, h]
theorem mixL_zero (q s fr b : Int) (l : List Stp) : mixL q s fr b l 0 = winL fr b l (l.length + 1) := by
  unfold mixL winL
  apply List.map_congr_left
  intro i _
  by_cases h : i ≤ 0
  · have e : i = 0 := by omega
    subst e
    rfl
  · rw [if_neg h]
theorem mixL_all (q s fr b : Int) (l : List Stp) : mixL q s fr b l l.length = fwdL q s fr b l (l.length + 1) := by
  unfold mixL fwdL
  apply List.map_congr_left
  intro i hi
  rw [if_pos (by have := List.mem_range.1 hi; omega)]
theorem getD_of {r : List (Int × Int)} {i : Nat} {x : Int × Int} (h : r[i]? = some x) : r.getD i (0, 0) = x := by rw [List.getD_eq_getElem?_getD, h]; rfl
theorem stayMost_at {s : Int} {l : List Stp} {k : Nat} {t : Stp} (h : l[k]? = some t) : stayMost s t = mostB s l k := by
  unfold stayMost mostB; rw [show l.getD k .zero = t by rw [List.getD_eq_getElem?_getD, h]; rfl]

theorem mixL_tight {q s fr b : Int} {l : List Stp} {k : Nat} {t : Stp} (h : l[k]? = some t) : tightR true q s (mixL q s fr b l k) (k, t) = (fwdS q s fr b l k, fwdS q s fr b l (k + 1)) := by
  have hk : k < l.length := (List.getElem?_eq_some_iff.1 h).1
  have e1 := getD_of (mixL_get q s fr b l k k (by omega))
  have e2 := getD_of (mixL_get q s fr b l k (k + 1) (by omega))
  rw [if_pos (Nat.le_refl _)] at e1
  rw [if_neg (by omega)] at e2
  unfold tightR tightB
  simp only [if_true]
  rw [e1, e2, stayMost_at h]
  rfl
theorem mixL_step {q s fr b : Int} {l : List Stp} {k : Nat} {t : Stp} (h : l[k]? = some t) : rowStep true q s (mixL q s fr b l k) (k, t) = mixL q s fr b l (k + 1) := by
  have hk : k < l.length := (List.getElem?_eq_some_iff.1 h).1
  unfold rowStep
  rw [mixL_tight h]
  apply List.ext_getElem?
  intro i
  by_cases hi : i < l.length + 1
  · rw [mixL_get _ _ _ _ _ _ _ hi]
    by_cases e2 : k + 1 = i
    · subst e2
      rw [List.getElem?_set_self (by rw [List.length_set, mixL_length]; omega), if_pos (Nat.le_refl _)]
    · rw [List.getElem?_set_ne e2]
      by_cases e1 : k = i
      · subst e1
        rw [List.getElem?_set_self (by rw [mixL_length]; omega), if_pos (by omega)]
      · rw [List.getElem?_set_ne e1, mixL_get _ _ _ _ _ _ _ hi]
        by_cases h3 : i ≤ k
        · rw [if_pos h3, if_pos (by omega)]
        · rw [if_neg h3, if_neg (by omega)]
  · rw [List.getElem?_eq_none (by simp [mixL_length]; omega), List.getElem?_eq_none (by rw [mixL_length]; omega)]

theorem first_some {q s fr b : Int} {l : List Stp} (hp : pathB q s fr b l = true) (i : Nat) : 0 ≤ lowB fr l i ∧ lowB fr l i ≤ highB b l i ∧ highB b l i ≤ 10000 := by
  simp only [pathB, Bool.and_eq_true, decide_eq_true_eq] at hp
  obtain ⟨⟨⟨⟨_, _⟩, h3⟩, h4⟩, h5⟩ := hp
  have h3' := (inB_iff _ _ _).1 h3
  unfold lowB highB
  by_cases hk : i < l.length
  · rw [if_pos hk, if_pos hk]
    simp only [goodTo, List.all_eq_true, List.mem_range] at h5
    have := (Bool.and_eq_true_iff.1 (h5 i hk)).1
    simp only [stepB, decide_eq_true_eq] at this
    omega
  · rw [if_neg hk, if_neg hk]
    omega
theorem win_good {q s fr b : Int} {l : List Stp} (hp : pathB q s fr b l = true) : GoodRow l.length (winL fr b l (l.length + 1)) where
  len := by simp [winL]
  at_ i x hx := by
    simp only [winL, List.getElem?_map, Option.map_eq_some_iff] at hx
    obtain ⟨k, _, rfl⟩ := hx
    exact first_some hp k

theorem fwd_fold {q s fr b : Int} {l : List Stp} (hp : pathB q s fr b l = true) : ∀ k, k ≤ l.length →
    (foldW true q s (winL fr b l (l.length + 1)) (allE l k)).2 = fwdTo q s fr b l (k + 1) ∧ (fwdTo q s fr b l (k + 1) = true → (foldW true q s (winL fr b l (l.length + 1)) (allE l k)).1 = mixL q s fr b l k)
  | 0, _ => by
    refine ⟨?_, fun _ => by rw [mixL_zero]; rfl⟩
    have := first_some hp 0
    show true = _
    simp [fwdTo, someB, fwdS]
    exact decide_eq_true this.2.1
  | k + 1, hk => by
    obtain ⟨h1, h2⟩ := fwd_fold hp k (by omega)
    obtain ⟨t, ht⟩ : ∃ t, l[k]? = some t := ⟨l[k], List.getElem?_eq_getElem (by omega)⟩
    rw [allE_succ ht, foldW_snoc]
    cases hf : fwdTo q s fr b l (k + 1) with
    | false =>
      have e : fwdTo q s fr b l (k + 1 + 1) = false := by
        cases e : fwdTo q s fr b l (k + 1 + 1) with
        | false => rfl
        | true =>
          have : fwdTo q s fr b l (k + 1) = true := by
            simp only [fwdTo, List.all_eq_true, List.mem_range] at e ⊢
            exact fun i hi => e i (by omega)
          rw [this] at hf
          cases hf
      rw [h1, hf, e]
      exact ⟨rfl, fun h => by cases h⟩
    | true =>
      have hr := h2 hf
      have hs : someB (fwdS q s fr b l k) = true := by
        have := fwdTo_at hf (show k < k + 1 by omega)
        simpa [someB] using this
      rw [h1, hf, hr, fwdTo_succ hf]
      refine ⟨?_, fun _ => mixL_step ht⟩
      show (true && (someB (tightR true q s (mixL q s fr b l k) (k, t)).1 && someB (tightR true q s (mixL q s fr b l k) (k, t)).2)) = _
      rw [mixL_tight ht, hs]; rfl

theorem back_tight {q s fr b : Int} {l : List Stp} {k m : Nat} {t : Stp} (hk : k < l.length) (hm : l.length - (k + 1) = m) (h : l[m]? = some t) :
    tightR false q s (backL q s fr b l l.length k) (m, t) = (bwdS q s fr b l l.length (k + 1), bwdS q s fr b l l.length k) := by
  have e1 := getD_of (backL_now q s fr b l l.length k hk)
  have e2 := getD_of (backL_next q s fr b l l.length k hk)
  rw [hm] at e1 e2
  unfold tightR tightB
  simp only [Bool.false_eq_true, if_false]
  rw [e1, e2, stayMost_at h]
  simp only [bwdS]
  rw [hm]
theorem back_fold {q s fr b : Int} {l : List Stp} (hp : pathB q s fr b l = true) (hf : fwdTo q s fr b l (l.length + 1) = true) : ∀ k, k ≤ l.length →
    foldW false q s (fwdL q s fr b l (l.length + 1)) (backE l k) = (backL q s fr b l l.length k, true)
  | 0, _ => by rw [backL_zero]; rfl
  | k + 1, hk => by
    have ih := back_fold hp hf k (by omega)
    obtain ⟨m, hm⟩ : ∃ m, l.length - (k + 1) = m := ⟨_, rfl⟩
    obtain ⟨t, ht⟩ : ∃ t, l[m]? = some t := ⟨l[m], List.getElem?_eq_getElem (by omega)⟩
    rw [backE_succ (show l.length - 1 - k = m by omega) ht, foldW_snoc, ih]
    have hT := back_tight (q := q) (s := s) (fr := fr) (b := b) (show k < l.length by omega) hm ht
    have s1 := (bwd_in hp hf (k + 1) (by omega)).1
    have s2 := (bwd_in hp hf k (by omega)).1
    show (((backL q s fr b l l.length k).set m (tightR false q s (backL q s fr b l l.length k) (m, t)).1).set (m + 1) (tightR false q s (backL q s fr b l l.length k) (m, t)).2, true && (someB (tightR false q s (backL q s fr b l l.length k) (m, t)).1 && someB (tightR false q s (backL q s fr b l l.length k) (m, t)).2)) = _
    rw [hT, backL_succ q s fr b l l.length k (by omega), hm]
    have e2 := backL_next q s fr b l l.length k (by omega)
    rw [hm] at e2
    congr 1
    · apply List.ext_getElem?
      intro i
      by_cases e : m + 1 = i
      · subst e
        rw [List.getElem?_set_self (by rw [List.length_set, backL_length]; omega), List.getElem?_set_ne (by omega), e2]
      · rw [List.getElem?_set_ne e]
    · simp [someB]
      exact ⟨s1, s2⟩
theorem fwd_good {q s fr b : Int} {l : List Stp} (hp : pathB q s fr b l = true) (hf : fwdTo q s fr b l (l.length + 1) = true) : GoodRow l.length (fwdL q s fr b l (l.length + 1)) where
  len := by simp [fwdL]
  at_ i x hx := by
    simp only [fwdL, List.getElem?_map, Option.map_eq_some_iff] at hx
    obtain ⟨k, hk, rfl⟩ := hx
    have hk' : k < l.length + 1 := by
      have := List.mem_of_getElem? hk
      simpa using this
    have h1 := fwd_range hp k
    have h2 := fwdTo_at hf hk'
    omega
end Go.Proofs.Ytcheigbpoopjgaa
