/- Joined texts: SentLaid, Copy, Copy2, SpanMark2, PathMark, Eq, PathPic, RestLaw, StepsTail, TailS, AfterS. -/
import Derived.ProofKit
import Derived.LaidMore
import Derived.OpenShut
import Derived.Stop.Joined
import Derived.Stop.LaidErr
import Derived.WalkSmall
import Derived.WalkKit
import Derived.WalkSpells
import Derived.Deep.RegionHeld3
import Derived.Deep.AppendLies
import Derived.Test.YtlcblcoodabpeaaDoorRows
import Derived.Test.YtlcblcoodabpeaaDoorJ03
import Derived.Test.YtlcblcoodabpeaaDoorWalk
import Derived.Test.YtlcblcoodabpeaaDoorJ01
import Derived.Test.YtlcblcoodabpeaaDoorJ04
import Derived.Test.YtlcblcoodabpeaaDoorJ02
namespace Go.Proofs.YtlcblcoodabpeaaDoor
open Go.ChangeShapes Go.WideShapes Go.ChangeAt Go.RowKit

theorem own_none : ownKnob Tryd.prog.godebug = none := by kernel_rfl
theorem laid_out : laidOutB Tryd.prog = true := by kernel_rfl
/-- The program's FlySpans keeps its contract. -/
theorem spans_said : SpansSaid := spans_any walk_any follow_any

/-- The variable's name, as the rows list it. -/
abbrev varName : String := "loop.example/laplink/impl.errNothingLeft"
abbrev laidL : List (String × DataW Unit) := [(varName, Rows.laid_loop_example_laplink_impl_errNothingLeft)]
theorem gvar : Tryd.prog.globalNamed varName = some 0 := by kernel_rfl
theorem gvarType : (Tryd.prog.globals[0]?).map (·.type) = some 56 := by kernel_rfl
theorem cellsE : Tryd.prog.cellsOf 151 = 1 := by kernel_rfl
theorem cellsS : Tryd.prog.cellsOf 9 = 1 := by kernel_rfl
theorem starE : "*" ++ "errors.errorString" = "*errors.errorString" := by decide
theorem rowE (u : TypeId) (h : Tryd.prog.typeName? 3 u = some "*errors.errorString") : u = 125 :=
  typeName_ptr_named (nm := "errors.errorString") (by rw [starE]; kernel_rfl) (by kernel_rfl) (by decide) u (by rw [starE]; exact h)

/-- The variable holds a pointer to an errors.errorString. -/
theorem of_laid {W : World} (h : laidMetH Tryd.prog laidL W) : ∃ p : Addr, W.var? Tryd.prog varName = some #[.iface 125 (.pointer (some p))] := by
  rw [MakeChecks.laidMetH_plain _ _ _ (by kernel_rfl)] at h
  obtain ⟨a, s, hv, _⟩ := laid_sentinel h gvar gvarType Tryd.underlying56 rowE Tryd.underlying125 Tryd.underlying151 rfl rfl Tryd.underlying9 cellsE cellsS
  exact ⟨a, hv⟩
theorem sent_of {W : World} {p : Addr} (h : W.var? Tryd.prog varName = some #[.iface 125 (.pointer (some p))]) : Sent W p := by
  have := World.var?_cell gvar h 0
  unfold Sent
  simpa using this
/-- The door's own heap meets the condition. -/
theorem door_met (os : Os) (args : Array Value) : laidMetH Tryd.prog laidL ((World.doorLaid Tryd.prog 400 os).forCall (fun _ _ => 0) ⟨#[], args, []⟩).memory :=
  laidMetH_of_parts3 (fuel := 8) (laidMet_of_run' 8 (by kernel_rfl) (by kernel_rfl)) (by kernel_rfl) (by kernel_rfl)
end Go.Proofs.YtlcblcoodabpeaaDoor

namespace Go.Proofs.YtlcblcoodabpeaaDoor
open Go.RowKit

theorem toStep_any (x y lo hi fr b : Int) (ho : Bool) (w : World) :
    Calls Tryd.prog 44 #[.agg #[.int .i64 x, .int .i64 y, .int .i64 lo, .int .i64 hi, .int .i64 fr, .int .i64 b, .bool ho]] w
      fun e w' => e = .returned (.agg #[.int .i64 x, .int .i64 y, .int .i64 lo, .int .i64 hi, .int .i64 fr, .int .i64 b, .bool ho]) ∧ Below w.heap.size w w' := by
  go_enter Tryd.func44, Tryd.ntmps44
  go_wp2
  refine bodyPost_ret (v := .agg #[.int .i64 x, .int .i64 y, .int .i64 lo, .int .i64 hi, .int .i64 fr, .int .i64 b, .bool ho]) (by simp [results, Tryd.results44, go_sem]) rfl ⟨rfl, ?_⟩
  exact (((Below.refl _ _).alloc (Nat.le_refl _) _).alloc (by simp) _).alloc (by simp; omega) _

theorem toKind_any (q s : Int) (w : World) :
    Calls Tryd.prog 26 #[.agg #[.int .i64 q, .int .i64 s]] w fun e w' => e = .returned (.agg #[.int .i64 q, .int .i64 s]) ∧ Below w.heap.size w w' := by
  go_enter Tryd.func26, Tryd.ntmps26
  go_wp2
  refine bodyPost_ret (v := .agg #[.int .i64 q, .int .i64 s]) (by simp [results, Tryd.results26, go_sem]) rfl ⟨rfl, ?_⟩
  exact (((Below.refl _ _).alloc (Nat.le_refl _) _).alloc (by simp) _).alloc (by simp; omega) _


set_option maxHeartbeats 1000000 in
theorem toSteps_more (a : Option Addr) (b o cap : Nat) (l : List Stp) (w : World) (hl : l.length ≤ 1048576) (hs : StepsAt w a b o l) :
    Calls Tryd.prog 27 #[.slice a l.length cap] w
      fun e w' => ∃ g, e = .returned (.slice (some ⟨g, 0, none⟩) l.length l.length) ∧ w.heap.size ≤ g ∧ g < w'.heap.size ∧ StepsAt w' (some ⟨g, 0, none⟩) g 0 l ∧ Below w.heap.size w w' ∧ ∀ i, i < l.length → w'.there g (i * 7) 7 := by
  obtain ⟨i0, hi, hz0, hz1, hz2⟩ := info_parts step_info
  go_enter Tryd.func27, Tryd.ntmps27
  go_wp2_with (first | (at_make; refine wpList_make_full _ rfl _ _ 29 rfl w.heap.size 50 i0 _ 7 Tryd.underlying29 hi hz0 hz1 .i64 .i64 _ _ l.length rfl rfl rfl rfl (by rw [hz2]; omega) (by unfold maxLen; omega) (Nat.le_refl _) ?_; intro w1 hown1 hgrow1))
  have hz : (madeCells (Value.agg #[.int .i64 0, .int .i64 0, .int .i64 0, .int .i64 0, .int .i64 0, .int .i64 0, .bool false]).cells (l.length * 7)).toList.length = l.length * 7 := hown1.1
  obtain ⟨hlen1, hrow1⟩ := hown1
  have hb1 : Below w.heap.size w w1 := (Below.refl _ _).grown hgrow1 (Nat.le_refl _) (fun k e => by cases e)
  obtain ⟨cur, hcur, hsz⟩ : ∃ cur, w1.heap[w.heap.size]? = some (.cells cur 50 (0, 0)) ∧ cur.size = l.length * 7 := by
    rcases hrow1 with ⟨h, _⟩ | ⟨g, cap, cur, h, _, hh, _, _, hs, _⟩
    · cases h
    · simp at h
      obtain ⟨rfl, rfl⟩ := h
      exact ⟨cur, hh, hs⟩
  clear hlen1 hrow1 hz hgrow1
  have hth : ∀ i, i < l.length → w1.there w.heap.size (i * 7) 7 := fun i hi => there_of_block hcur _ _ (by omega)
  have hgr1 : w.heap.size < w1.heap.size := lt_of_block hcur
  go_loopw [4] (fun v wr => ∃ k : Nat, k ≤ l.length ∧ v = .int .i64 k ∧ Below w.heap.size w wr ∧ w.heap.size < wr.heap.size ∧ (∀ i, i < l.length → wr.there w.heap.size (i * 7) 7) ∧ (∀ (i : Nat) (s : Stp), i < k → l[i]? = some s → wr.rangeAt w.heap.size (i * 7) s.cells))
    (fun v _ => l.length - (intOf v).toNat)
  case atStart => exact ⟨0, Nat.zero_le _, rfl, hb1, hgr1, hth, fun i s h => absurd h (by omega)⟩
  case round =>
    obtain ⟨k, hk, rfl, hb, hgr, hthr, hdone⟩ := hrel
    by_cases hlt : k < l.length
    · obtain ⟨s, hsk⟩ : ∃ s, l[k]? = some s := ⟨l[k], List.getElem?_eq_getElem hlt⟩
      have hne : l ≠ [] := by intro e; subst e; simp at hlt
      obtain rfl := hs.here hne
      have hbw := hs.lt hne
      obtain ⟨c0, c1, c2, c3, c4, c5, c6⟩ := (hs.below hb (fun _ => hbw)).seven hsk
      go_wp2_with fail
      refine (toStep_any _ _ _ _ _ _ _ _).mono ?_
      rintro e w2 ⟨rfl, hb2⟩
      have hth2 : w2.there w.heap.size (k * 7) 7 := there_below (hthr k hlt) hb2 hgr
      have HT : Hid (w2.there w.heap.size (k * 7) 7) := hth2
      go_wp2_with (refine store_step rfl (.tmp 21) (.tmp 20) rfl w.heap.size (k * 7) s rfl rfl hth2 ?_; clear hth2)
      go_roundw
      case rel =>
        refine ⟨k + 1, by omega, by go_num, below_setCells (Nat.le_refl _) _ _ _ _ (hb.trans (hb2.mono (by have := hb.size; omega))), ?_, ?_, ?_⟩
        · rw [size_setCells]; have := hb2.size; omega
        · intro i hi
          exact World.there_setCells (there_below (hthr i hi) hb2 hgr) _ _ _
        · intro i s' hi hs'
          by_cases hik : i = k
          · subst hik
            obtain rfl : s = s' := by rw [hsk] at hs'; simpa using hs'
            exact World.rangeAt_setCells_same _ _ _ _ HT.out
          · exact World.rangeAt_setCells_apart (range_below (hdone i s' (by omega) hs') hb2 hgr) _ _ _ (by right; left; simp; omega)
      case measure => simp [intOf]; omega
    · have hkl : k = l.length := by omega
      subst hkl
      go_wp2
      go_ret
      exact ⟨w.heap.size, rfl, Nat.le_refl _, hgr, ⟨fun _ => rfl, fun _ => hgr, fun i s hi => by simpa using hdone i s (List.getElem?_eq_some_iff.1 hi).1 hi⟩, hb, hthr⟩

theorem toSteps_any (a : Option Addr) (b o cap : Nat) (l : List Stp) (w : World) (hl : l.length ≤ 1048576) (hs : StepsAt w a b o l) :
    Calls Tryd.prog 27 #[.slice a l.length cap] w
      fun e w' => ∃ g, e = .returned (.slice (some ⟨g, 0, none⟩) l.length l.length) ∧ w.heap.size ≤ g ∧ g < w'.heap.size ∧ StepsAt w' (some ⟨g, 0, none⟩) g 0 l ∧ Below w.heap.size w w' :=
  (toSteps_more a b o cap l w hl hs).mono fun _ _ ⟨g, h1, h2, h3, h4, h5, _⟩ => ⟨g, h1, h2, h3, h4, h5⟩
end Go.Proofs.YtlcblcoodabpeaaDoor

namespace Go.Proofs.YtlcblcoodabpeaaDoor
open Go.RowKit


/-- A store anywhere leaves places that can be written. -/
theorem there_set {w : World} {b o n : Nat} (h : w.there b o n) (pb po : Nat) (v : Value) : (w.setCell ⟨pb, po, none⟩ v).there b o n := World.there_setCells h pb po [v]

theorem szSteps_any (a : Option Addr) (n cap : Nat) (left : Int) (w : World) (hn : n ≤ maxLen) (h0 : -1 ≤ left) (h1 : left ≤ 1048576) :
    Calls Tryd.prog 17 #[.slice a n cap, .int .i64 left] w fun e w' => e = .returned (.int .i64 (leftB left n)) ∧ w' = w := by
  unfold maxLen at hn
  by_cases h : left - n < 0
  · go_enter Tryd.func17, Tryd.ntmps17
    go_wp2
    go_ret
    exact ⟨by simp [leftB, h], rfl⟩
  · go_enter Tryd.func17, Tryd.ntmps17
    go_wp2
    go_ret
    exact ⟨by rw [leftB, if_neg (by omega)]; rfl, rfl⟩


theorem szPath_any (q s fr b : Int) (a : Option Addr) (n cap : Nat) (left : Int) (w : World) (hn : n ≤ maxLen) (h0 : -1 ≤ left) (h1 : left ≤ 1048576) :
    Calls Tryd.prog 6 #[.agg #[.int .i64 q, .int .i64 s, .slice a n cap, .int .i64 fr, .int .i64 b], .int .i64 left] w fun e w' => e = .returned (.int .i64 (leftB left n)) ∧ Below w.heap.size w w' := by
  have hb := (Below.refl w.heap.size w).alloc (Nat.le_refl _) (.cells #[.int .i64 q, .int .i64 s, .slice a n cap, .int .i64 fr, .int .i64 b] 26)
  obtain ⟨k0, _⟩ := leftB_left left n h0 h1
  by_cases h : leftB left n < 0
  · have e1 : leftB left n = -1 := by omega
    go_enter Tryd.func6, Tryd.ntmps6
    go_wp2_with (go_at_call 17; refine (szSteps_any _ _ _ _ _ hn h0 h1).mono ?_; rintro e w' ⟨rfl, rfl⟩)
    go_ret
    exact ⟨by rw [e1]; rfl, hb⟩
  · go_enter Tryd.func6, Tryd.ntmps6
    go_wp2_with (go_at_call 17; refine (szSteps_any _ _ _ _ _ hn h0 h1).mono ?_; rintro e w' ⟨rfl, rfl⟩)
    go_ret
    exact ⟨rfl, hb⟩

set_option maxHeartbeats 1000000 in
theorem toPath_more (q s fr b : Int) (a : Option Addr) (b0 o cap : Nat) (l : List Stp) (w : World) (hl : l.length ≤ 1048576) (hs : StepsAt w a b0 o l) :
    Calls Tryd.prog 8 #[.agg #[.int .i64 q, .int .i64 s, .slice a l.length cap, .int .i64 fr, .int .i64 b]] w
      fun e w' => ∃ g, e = .returned (.agg #[.int .i64 q, .int .i64 s, .slice (some ⟨g, 0, none⟩) l.length l.length, .int .i64 fr, .int .i64 b]) ∧ w.heap.size ≤ g ∧ g < w'.heap.size ∧ StepsAt w' (some ⟨g, 0, none⟩) g 0 l ∧ Below w.heap.size w w' ∧ ∀ i, i < l.length → w'.there g (i * 7) 7 := by
  go_enter Tryd.func8, Tryd.ntmps8
  go_wp2_with fail
  refine (toKind_any _ _ _).mono ?_
  rintro e w1 ⟨rfl, hb1⟩
  obtain ⟨hc1, hf1⟩ := old_cells hb1
  have hz1 := hb1.size
  simp at hz1
  have hb01 : Below w.heap.size w w1 := ((((Below.refl w.heap.size w).alloc (Nat.le_refl _) _).alloc (by simp) _).alloc (by simp; omega) _).trans (hb1.mono (by simp; omega))
  have hs1 := hs.below hb01 (fun h => hs.lt h)
  go_wp2_with fail
  refine (toSteps_more _ b0 o _ _ _ hl ?_).mono ?_
  · exact hs.below ((hb01.setCell (by simp; omega) _).setCell (by simp; omega) _) (fun h => hs.lt h)
  rintro e w2 ⟨g, rfl, hg1, hg2, hs2, hb2, hth⟩
  have HTH : Hid (∀ i, i < l.length → w2.there g (i * 7) 7) := hth
  clear hth
  obtain ⟨hc2, hf2⟩ := old_cells hb2
  have hz2 := hb2.size
  simp [World.setCell] at hz2 hg1
  have hb02 : Below w.heap.size w w2 := ((hb01.setCell (by simp; omega) _).setCell (by simp; omega) _).trans (hb2.mono (by simp [World.setCell]; omega))
  have hC1 : ∀ b o, b < w.heap.size + 3 → w1.cell? ⟨b, o, none⟩ = _ := fun b o h => hc1 b o (by simp; omega)
  have hF1 : ∀ b o, b < w.heap.size + 3 → w1.frozen? ⟨b, o, none⟩ = _ := fun b o h => hf1 b o (by simp; omega)
  have hC2 : ∀ b o, b < w.heap.size + 3 → w2.cell? ⟨b, o, none⟩ = _ := fun b o h => hc2 b o (by simp [World.setCell]; omega)
  have hF2 : ∀ b o, b < w.heap.size + 3 → w2.frozen? ⟨b, o, none⟩ = _ := fun b o h => hf2 b o (by simp [World.setCell]; omega)
  clear hc1 hf1 hc2 hf2
  have a3 : w2.cell? ⟨w.heap.size, 3, none⟩ = some (.int .i64 fr) := by rw [hC2 _ _ (by omega)]; simp [go_sem, hC1]
  have a4 : w2.cell? ⟨w.heap.size, 4, none⟩ = some (.int .i64 b) := by rw [hC2 _ _ (by omega)]; simp [go_sem, hC1]
  have o0 : w2.cell? ⟨w.heap.size + 1 + 1, 0, none⟩ = some (.int .i64 q) := by rw [hC2 _ _ (by omega)]; simp [go_sem, hC1]
  have o1 : w2.cell? ⟨w.heap.size + 1 + 1, 1, none⟩ = some (.int .i64 s) := by rw [hC2 _ _ (by omega)]; simp [go_sem, hC1]
  have o2 : w2.cell? ⟨w.heap.size + 1 + 1, 2, none⟩ = some (.slice none 0 0) := by rw [hC2 _ _ (by omega)]; simp [go_sem, hC1]
  have o3 : w2.cell? ⟨w.heap.size + 1 + 1, 3, none⟩ = some (.int .i64 0) := by rw [hC2 _ _ (by omega)]; simp [go_sem, hC1]
  have o4 : w2.cell? ⟨w.heap.size + 1 + 1, 4, none⟩ = some (.int .i64 0) := by rw [hC2 _ _ (by omega)]; simp [go_sem, hC1]
  have fo : ∀ j, w2.frozen? ⟨w.heap.size + 1 + 1, j, none⟩ = false := by intro j; rw [hF2 _ _ (by omega)]; simp [go_sem, hF1]
  have r0 : w2.cell? ⟨w.heap.size + 1, 0, none⟩ = some (.int .i64 0) := by rw [hC2 _ _ (by omega)]; simp [go_sem, hC1]
  have r1 : w2.cell? ⟨w.heap.size + 1, 1, none⟩ = some (.int .i64 0) := by rw [hC2 _ _ (by omega)]; simp [go_sem, hC1]
  have r2 : w2.cell? ⟨w.heap.size + 1, 2, none⟩ = some (.slice none 0 0) := by rw [hC2 _ _ (by omega)]; simp [go_sem, hC1]
  have r3 : w2.cell? ⟨w.heap.size + 1, 3, none⟩ = some (.int .i64 0) := by rw [hC2 _ _ (by omega)]; simp [go_sem, hC1]
  have r4 : w2.cell? ⟨w.heap.size + 1, 4, none⟩ = some (.int .i64 0) := by rw [hC2 _ _ (by omega)]; simp [go_sem, hC1]
  have fr1 : ∀ j, w2.frozen? ⟨w.heap.size + 1, j, none⟩ = false := by intro j; rw [hF2 _ _ (by omega)]; simp [go_sem, hF1]
  clear hC1 hC2 hF1 hF2 hs1 hb01 hb1 hs
  go_wp2
  refine bodyPost_ret (v := .agg #[.int .i64 q, .int .i64 s, .slice (some ⟨g, 0, none⟩) l.length l.length, .int .i64 fr, .int .i64 b]) (by simp [results, Tryd.results8, go_sem, *]) rfl ⟨g, rfl, by omega, ?_, ?_, ?_, ?_⟩
  · simpa [World.setCell] using hg2
  · iterate 8 (refine StepsAt.set ?_ (by simp; omega) _)
    exact hs2
  · iterate 8 (refine Below.setCell ?_ (by simp <;> omega) _)
    exact hb02
  · intro i hi
    iterate 8 (refine there_set ?_ _ _ _)
    exact HTH.out i hi

theorem toPath_any (q s fr b : Int) (a : Option Addr) (b0 o cap : Nat) (l : List Stp) (w : World) (hl : l.length ≤ 1048576) (hs : StepsAt w a b0 o l) :
    Calls Tryd.prog 8 #[.agg #[.int .i64 q, .int .i64 s, .slice a l.length cap, .int .i64 fr, .int .i64 b]] w
      fun e w' => ∃ g, e = .returned (.agg #[.int .i64 q, .int .i64 s, .slice (some ⟨g, 0, none⟩) l.length l.length, .int .i64 fr, .int .i64 b]) ∧ w.heap.size ≤ g ∧ g < w'.heap.size ∧ StepsAt w' (some ⟨g, 0, none⟩) g 0 l ∧ Below w.heap.size w w' :=
  (toPath_more q s fr b a b0 o cap l w hl hs).mono fun _ _ ⟨g, h1, h2, h3, h4, h5, _⟩ => ⟨g, h1, h2, h3, h4, h5⟩
end Go.Proofs.YtlcblcoodabpeaaDoor

namespace Go.Proofs.YtlcblcoodabpeaaDoor
open Go.RowKit

set_option maxHeartbeats 4000000 in
set_option maxRecDepth 20000 in
theorem markSteps_any (k0 : Int) (g cap n : Nat) (w : World) (hn : n ≤ 1048576) (hk : 0 ≤ k0 ∧ k0 ≤ 1000) (hth : ∀ i, i < n → w.there g (i * 7) 7) :
    Calls Tryd.prog 32 #[.slice (some ⟨g, 0, none⟩) n cap, .int .i64 k0] w
      fun e w' => e = .returned (.int .i64 (k0 + ((n * 7 : Nat) : Int))) ∧ w.grownBy w' (some g) ∧ w'.heap.size = w.heap.size := by
  obtain ⟨k1, k2⟩ := hk
  go_enter Tryd.func32, Tryd.ntmps32
  go_wp2
  go_loopw [1, 5] (fun v u wr => ∃ i : Nat, i ≤ n ∧ u = .int .i64 i ∧ v = .int .i64 (k0 + ((i * 7 : Nat) : Int)) ∧ (∀ j, j < n → wr.there g (j * 7) 7) ∧ w.grownBy wr (some g) ∧ wr.heap.size = w.heap.size) (fun _ u _ => n - (intOf u).toNat)
  case atStart => exact ⟨0, Nat.zero_le _, rfl, by simp, hth, ⟨rfl, rfl, rfl, Nat.le_refl _, fun _ _ _ => rfl⟩, rfl⟩
  case round =>
    clear hth
    obtain ⟨i, hi, rfl, rfl, hth, hg, hz⟩ := hrel
    by_cases hlt : i < n
    · have ht := hth i hlt
      obtain ⟨v0, c0⟩ := Option.isSome_iff_exists.1 (ht 0 (by omega)).1
      obtain ⟨v1, c1⟩ := Option.isSome_iff_exists.1 (ht 1 (by omega)).1
      obtain ⟨v2, c2⟩ := Option.isSome_iff_exists.1 (ht 2 (by omega)).1
      obtain ⟨v3, c3⟩ := Option.isSome_iff_exists.1 (ht 3 (by omega)).1
      obtain ⟨v4, c4⟩ := Option.isSome_iff_exists.1 (ht 4 (by omega)).1
      obtain ⟨v5, c5⟩ := Option.isSome_iff_exists.1 (ht 5 (by omega)).1
      obtain ⟨v6, c6⟩ := Option.isSome_iff_exists.1 (ht 6 (by omega)).1
      have f0 := (ht 0 (by omega)).2
      have f1 := (ht 1 (by omega)).2
      have f2 := (ht 2 (by omega)).2
      have f3 := (ht 3 (by omega)).2
      have f4 := (ht 4 (by omega)).2
      have f5 := (ht 5 (by omega)).2
      have f6 := (ht 6 (by omega)).2
      rw [Nat.add_zero] at c0 f0
      have i0 : (0 : Int) ≤ (i : Int) := by omega
      have i1 : (i : Int) < (n : Int) := by omega
      have HT : Hid (∀ j, j < n → wr.there g (j * 7) 7) := hth
      have HG : Hid (w.grownBy wr (some g)) := hg
      have HZ : Hid (wr.heap.size = w.heap.size) := hz
      clear ht hth hg hz
      generalize hK : k0 + ((i * 7 : Nat) : Int) = K
      have b1 : 0 ≤ K ∧ K ≤ 10000000 := by omega
      obtain ⟨b2, b3⟩ := b1
      have EK : Hid (k0 + ((i * 7 : Nat) : Int) = K) := hK
      clear hK
      go_wp2
      go_roundw
      case rel =>
        have hK := EK.out
        refine ⟨i + 1, by omega, by go_num, by congr 1; omega, ?_, ?_, by simpa [World.setCell] using HZ.out⟩
        · intro j hj
          iterate 7 (refine there_set ?_ _ _ _)
          exact HT.out j hj
        · exact grown_over2 HG.out (grown_over2 (grown_over2 (grown_over2 (grown_over2 (grown_over2 (grown_over2 (grown_set wr ⟨g, i * 7, none⟩ _) (grown_set _ ⟨g, i * 7 + 1, none⟩ _)) (grown_set _ ⟨g, i * 7 + 2, none⟩ _)) (grown_set _ ⟨g, i * 7 + 3, none⟩ _)) (grown_set _ ⟨g, i * 7 + 4, none⟩ _)) (grown_set _ ⟨g, i * 7 + 5, none⟩ _)) (grown_set _ ⟨g, i * 7 + 6, none⟩ _))
      case measure => simp [intOf]; omega
    · obtain rfl : i = n := by omega
      go_wp2
      go_ret
      exact ⟨rfl, hg, hz⟩

theorem markPath_any (q s fr b k0 : Int) (g cap n : Nat) (w : World) (hn : n ≤ 1048576) (hk : 0 ≤ k0 ∧ k0 ≤ 1000) (hgw : g < w.heap.size) (hth : ∀ i, i < n → w.there g (i * 7) 7) :
    Calls Tryd.prog 11 #[.agg #[.int .i64 q, .int .i64 s, .slice (some ⟨g, 0, none⟩) n cap, .int .i64 fr, .int .i64 b], .int .i64 k0] w
      fun e w' => e = .returned (.int .i64 (k0 + ((n * 7 : Nat) : Int))) ∧ w.grownBy w' (some g) := by
  have hal := World.grownBy_alloc w (.cells #[.int .i64 q, .int .i64 s, .slice (some ⟨g, 0, none⟩) n cap, .int .i64 fr, .int .i64 b] 31) (some g)
  go_enter Tryd.func11, Tryd.ntmps11
  go_wp2_with fail
  refine (markSteps_any _ g _ n _ hn hk (fun i hi => there_below (hth i hi) ((Below.refl _ _).alloc (Nat.le_refl _) _) hgw)).mono ?_
  rintro e w1 ⟨rfl, hg1, hz1⟩
  go_wp2
  go_ret
  exact ⟨rfl, grown_over2 hal hg1⟩
end Go.Proofs.YtlcblcoodabpeaaDoor

namespace Go.Proofs.YtlcblcoodabpeaaDoor
open Go.RowKit

/-- The marks of one step. -/
def markStp (K : Int) : Stp := { x := K, y := K + 1, lo := K + 1 + 1, hi := K + 1 + 1 + 1, fr := K + 1 + 1 + 1 + 1, by_ := K + 1 + 1 + 1 + 1 + 1, ho := (K + 1 + 1 + 1 + 1 + 1 + 1) % 3 == 0 }
def markL (k0 : Int) (n : Nat) : List Stp := (List.range n).map fun i => markStp (k0 + ((i * 7 : Nat) : Int))
def markSTo (k0 : Int) (l : List Stp) (k : Nat) : List Stp := markL k0 k ++ l.drop k
theorem markL_length (k0 : Int) (n : Nat) : (markL k0 n).length = n := by simp [markL]
theorem markL_get (k0 : Int) {n i : Nat} (h : i < n) : (markL k0 n)[i]? = some (markStp (k0 + ((i * 7 : Nat) : Int))) := by simp [markL, h]
theorem markSTo_zero (k0 : Int) (l : List Stp) : markSTo k0 l 0 = l := by simp [markSTo, markL]
theorem markSTo_all (k0 : Int) (l : List Stp) : markSTo k0 l l.length = markL k0 l.length := by simp [markSTo]
theorem markSTo_length (k0 : Int) (l : List Stp) {k : Nat} (h : k ≤ l.length) : (markSTo k0 l k).length = l.length := by simp [markSTo, markL_length]; omega
theorem markSTo_now (k0 : Int) {l : List Stp} {k : Nat} {t : Stp} (h : l[k]? = some t) : (markSTo k0 l k)[k]? = some t := by
  unfold markSTo
  rw [List.getElem?_append_right (by rw [markL_length]; exact Nat.le_refl _), markL_length, List.getElem?_drop, Nat.sub_self, Nat.add_zero]
  exact h
theorem markSTo_succ (k0 : Int) {l : List Stp} {k : Nat} (h : k < l.length) : markSTo k0 l (k + 1) = (markSTo k0 l k).set k (markStp (k0 + ((k * 7 : Nat) : Int))) := by
  apply List.ext_getElem?
  intro i
  by_cases e : i = k
  · subst e
    rw [List.getElem?_set_self (by rw [markSTo_length k0 l (Nat.le_of_lt h)]; exact h)]
    unfold markSTo
    rw [List.getElem?_append_left (by rw [markL_length]; omega), markL_get k0 (by omega)]
  · rw [List.getElem?_set_ne (Ne.symm e)]
    unfold markSTo
    by_cases c : i < k
    · rw [List.getElem?_append_left (by rw [markL_length]; omega), List.getElem?_append_left (by rw [markL_length]; exact c), markL_get k0 (by omega), markL_get k0 c]
    · rw [List.getElem?_append_right (by rw [markL_length]; omega), List.getElem?_append_right (by rw [markL_length]; omega), markL_length, markL_length, List.getElem?_drop, List.getElem?_drop]
      congr 1
      omega

/-- One number of one step is written. -/
theorem row_put {w : World} {base g cap n : Nat} {l : List Stp} (h : w.ownsRow base 50 7 (.slice (some ⟨g, 0, none⟩) n cap) n (stepCells l)) {i j : Nat} {t t' : Stp} {u : Value} (ht : l[i]? = some t) (hj : j < 7) (he : t'.cells = t.cells.set j u) :
    (w.setCell ⟨g, i * 7 + j, none⟩ u).ownsRow base 50 7 (.slice (some ⟨g, 0, none⟩) n cap) n (stepCells (l.set i t')) := by
  have hi : i < l.length := (List.getElem?_eq_some_iff.1 ht).1
  have hn : l.length * 7 = n * 7 := by rw [← stepCells_length]; exact h.1
  rw [← stepCells_put l i j t t' u ht hj he]
  exact owns_put h (by omega) u
theorem row_put_set {w : World} {base g cap n : Nat} {l : List Stp} {i j : Nat} {t t' : Stp} {u : Value} (h : w.ownsRow base 50 7 (.slice (some ⟨g, 0, none⟩) n cap) n (stepCells (l.set i t))) (hi : i < l.length) (hj : j < 7) (he : t'.cells = t.cells.set j u) :
    (w.setCell ⟨g, i * 7 + j, none⟩ u).ownsRow base 50 7 (.slice (some ⟨g, 0, none⟩) n cap) n (stepCells (l.set i t')) := by
  have h1 := row_put h (j := j) (t := t) (t' := t') (u := u) (by rw [List.getElem?_set_self hi]) hj he
  rw [List.set_set] at h1
  exact h1
/-- All of one step is written. -/
theorem row_put7 {w : World} {base g cap n : Nat} {l : List Stp} (h : w.ownsRow base 50 7 (.slice (some ⟨g, 0, none⟩) n cap) n (stepCells l)) {i : Nat} {t : Stp} (ht : l[i]? = some t) (x y lo hi fr by_ : Int) (ho : Bool) :
    (((((((w.setCell ⟨g, i * 7, none⟩ (.int .i64 x)).setCell ⟨g, i * 7 + 1, none⟩ (.int .i64 y)).setCell ⟨g, i * 7 + 2, none⟩ (.int .i64 lo)).setCell ⟨g, i * 7 + 3, none⟩ (.int .i64 hi)).setCell ⟨g, i * 7 + 4, none⟩ (.int .i64 fr)).setCell ⟨g, i * 7 + 5, none⟩ (.int .i64 by_)).setCell ⟨g, i * 7 + 6, none⟩ (.bool ho)).ownsRow base 50 7 (.slice (some ⟨g, 0, none⟩) n cap) n (stepCells (l.set i { x := x, y := y, lo := lo, hi := hi, fr := fr, by_ := by_, ho := ho })) := by
  have hil : i < l.length := (List.getElem?_eq_some_iff.1 ht).1
  obtain ⟨a0, a1, a2, a3, a4, a5, a6⟩ := t
  have h0 := row_put h (j := 0) (t' := ⟨x, a1, a2, a3, a4, a5, a6⟩) (u := .int .i64 x) ht (by decide) rfl
  have h1 := row_put_set (t := ⟨x, a1, a2, a3, a4, a5, a6⟩) (t' := ⟨x, y, a2, a3, a4, a5, a6⟩) (j := 1) (u := .int .i64 y) h0 hil (by decide) rfl
  have h2 := row_put_set (t := ⟨x, y, a2, a3, a4, a5, a6⟩) (t' := ⟨x, y, lo, a3, a4, a5, a6⟩) (j := 2) (u := .int .i64 lo) h1 hil (by decide) rfl
  have h3 := row_put_set (t := ⟨x, y, lo, a3, a4, a5, a6⟩) (t' := ⟨x, y, lo, hi, a4, a5, a6⟩) (j := 3) (u := .int .i64 hi) h2 hil (by decide) rfl
  have h4 := row_put_set (t := ⟨x, y, lo, hi, a4, a5, a6⟩) (t' := ⟨x, y, lo, hi, fr, a5, a6⟩) (j := 4) (u := .int .i64 fr) h3 hil (by decide) rfl
  have h5 := row_put_set (t := ⟨x, y, lo, hi, fr, a5, a6⟩) (t' := ⟨x, y, lo, hi, fr, by_, a6⟩) (j := 5) (u := .int .i64 by_) h4 hil (by decide) rfl
  exact row_put_set (t := ⟨x, y, lo, hi, fr, by_, a6⟩) (t' := ⟨x, y, lo, hi, fr, by_, ho⟩) (j := 6) (u := .bool ho) h5 hil (by decide) rfl

theorem markSteps_nil (k0 : Int) (w : World) : Calls Tryd.prog 32 #[.slice none 0 0, .int .i64 k0] w fun e w' => e = .returned (.int .i64 k0) ∧ w' = w := by
  go_enter Tryd.func32, Tryd.ntmps32
  go_wp2
  go_loopw [1, 5] (fun v u wr => v = .int .i64 k0 ∧ u = .int .i64 0 ∧ wr = w) (fun _ _ _ => 0)
  case atStart => exact ⟨rfl, rfl, rfl⟩
  case round =>
    obtain ⟨rfl, rfl, rfl⟩ := hrel
    go_wp2
    go_ret
    exact ⟨rfl, rfl⟩

theorem heldSteps_nil (k0 : Int) (w : World) : Calls Tryd.prog 33 #[.slice none 0 0, .int .i64 k0] w fun e w' => e = .returned (.int .i64 k0) ∧ w' = w := by
  go_enter Tryd.func33, Tryd.ntmps33
  go_wp2
  go_loopw [1, 5] (fun v u wr => v = .int .i64 k0 ∧ u = .int .i64 0 ∧ wr = w) (fun _ _ _ => 0)
  case atStart => exact ⟨rfl, rfl, rfl⟩
  case round =>
    obtain ⟨rfl, rfl, rfl⟩ := hrel
    go_wp2
    go_ret
    exact ⟨rfl, rfl⟩

set_option maxHeartbeats 4000000 in
set_option maxRecDepth 20000 in
theorem markSteps_row (k0 : Int) (g cap base : Nat) (l : List Stp) (w : World) (hn : l.length ≤ 1048576) (hk : 0 ≤ k0 ∧ k0 ≤ 1000) (h : w.ownsRow base 50 7 (.slice (some ⟨g, 0, none⟩) l.length cap) l.length (stepCells l)) :
    Calls Tryd.prog 32 #[.slice (some ⟨g, 0, none⟩) l.length cap, .int .i64 k0] w
      fun e w' => e = .returned (.int .i64 (k0 + ((l.length * 7 : Nat) : Int))) ∧ w'.ownsRow base 50 7 (.slice (some ⟨g, 0, none⟩) l.length cap) l.length (stepCells (markL k0 l.length)) ∧ w.grownBy w' (some g) := by
  obtain ⟨k1, k2⟩ := hk
  go_enter Tryd.func32, Tryd.ntmps32
  go_wp2
  go_loopw [1, 5] (fun v u wr => ∃ i : Nat, i ≤ l.length ∧ u = .int .i64 i ∧ v = .int .i64 (k0 + ((i * 7 : Nat) : Int)) ∧ wr.ownsRow base 50 7 (.slice (some ⟨g, 0, none⟩) l.length cap) l.length (stepCells (markSTo k0 l i)) ∧ w.grownBy wr (some g)) (fun _ u _ => l.length - (intOf u).toNat)
  case atStart => exact ⟨0, Nat.zero_le _, rfl, by simp, by rw [markSTo_zero]; exact h, ⟨rfl, rfl, rfl, Nat.le_refl _, fun _ _ _ => rfl⟩⟩
  case round =>
    clear h
    obtain ⟨i, hi, rfl, rfl, ho, hg⟩ := hrel
    by_cases hlt : i < l.length
    · obtain ⟨t, ht⟩ : ∃ t, l[i]? = some t := ⟨_, List.getElem?_eq_getElem hlt⟩
      have hnow := markSTo_now k0 ht
      have c0 := (ho.cellAt (i * 7) (by omega)).trans (stepCells_at _ i t 0 hnow (by decide))
      have c1 := (ho.cellAt (i * 7 + 1) (by omega)).trans (stepCells_at _ i t 1 hnow (by decide))
      have c2 := (ho.cellAt (i * 7 + 2) (by omega)).trans (stepCells_at _ i t 2 hnow (by decide))
      have c3 := (ho.cellAt (i * 7 + 3) (by omega)).trans (stepCells_at _ i t 3 hnow (by decide))
      have c4 := (ho.cellAt (i * 7 + 4) (by omega)).trans (stepCells_at _ i t 4 hnow (by decide))
      have c5 := (ho.cellAt (i * 7 + 5) (by omega)).trans (stepCells_at _ i t 5 hnow (by decide))
      have c6 := (ho.cellAt (i * 7 + 6) (by omega)).trans (stepCells_at _ i t 6 hnow (by decide))
      have cf := ho.frozenAt
      have i0 : (0 : Int) ≤ (i : Int) := by omega
      have i1 : (i : Int) < (l.length : Int) := by omega
      have HO : Hid (wr.ownsRow base 50 7 (.slice (some ⟨g, 0, none⟩) l.length cap) l.length (stepCells (markSTo k0 l i))) := ho
      have HG : Hid (w.grownBy wr (some g)) := hg
      have HN : Hid ((markSTo k0 l i)[i]? = some t) := hnow
      have HT : Hid (l[i]? = some t) := ht
      clear ho hg hnow ht
      generalize hK : k0 + ((i * 7 : Nat) : Int) = K
      have b1 : 0 ≤ K ∧ K ≤ 10000000 := by omega
      obtain ⟨b2, b3⟩ := b1
      have EK : Hid (k0 + ((i * 7 : Nat) : Int) = K) := hK
      clear hK
      go_wp2
      go_roundw
      case rel =>
        have hK := EK.out
        refine ⟨i + 1, by omega, by go_num, by congr 1; omega, ?_, ?_⟩
        · have h7 := row_put7 HO.out HN.out K (K + 1) (K + 1 + 1) (K + 1 + 1 + 1) (K + 1 + 1 + 1 + 1) (K + 1 + 1 + 1 + 1 + 1) ((K + 1 + 1 + 1 + 1 + 1 + 1) % 3 == 0)
          rw [markSTo_succ k0 hlt, hK]
          exact h7
        · exact grown_over2 HG.out (grown_over2 (grown_over2 (grown_over2 (grown_over2 (grown_over2 (grown_over2 (grown_set wr ⟨g, i * 7, none⟩ _) (grown_set _ ⟨g, i * 7 + 1, none⟩ _)) (grown_set _ ⟨g, i * 7 + 2, none⟩ _)) (grown_set _ ⟨g, i * 7 + 3, none⟩ _)) (grown_set _ ⟨g, i * 7 + 4, none⟩ _)) (grown_set _ ⟨g, i * 7 + 5, none⟩ _)) (grown_set _ ⟨g, i * 7 + 6, none⟩ _))
      case measure => simp [intOf]; omega
    · obtain rfl : i = l.length := by omega
      go_wp2
      go_ret
      exact ⟨rfl, by rw [← markSTo_all]; exact ho, hg⟩

set_option maxHeartbeats 4000000 in
set_option maxRecDepth 20000 in
theorem heldSteps_row (k0 : Int) (g cap base n : Nat) (w : World) (hn : n ≤ 1048576) (hk : 0 ≤ k0 ∧ k0 ≤ 1000) (h : w.ownsRow base 50 7 (.slice (some ⟨g, 0, none⟩) n cap) n (stepCells (markL k0 n))) :
    Calls Tryd.prog 33 #[.slice (some ⟨g, 0, none⟩) n cap, .int .i64 k0] w fun e w' => e = .returned (.int .i64 (k0 + ((n * 7 : Nat) : Int))) ∧ w' = w := by
  obtain ⟨k1, k2⟩ := hk
  go_enter Tryd.func33, Tryd.ntmps33
  go_wp2
  go_loopw [1, 5] (fun v u wr => ∃ i : Nat, i ≤ n ∧ u = .int .i64 i ∧ v = .int .i64 (k0 + ((i * 7 : Nat) : Int)) ∧ wr = w) (fun _ u _ => n - (intOf u).toNat)
  case atStart => exact ⟨0, Nat.zero_le _, rfl, by simp, rfl⟩
  case round =>
    obtain ⟨i, hi, rfl, rfl, rfl⟩ := hrel
    by_cases hlt : i < n
    · have hnow := markL_get k0 hlt
      generalize hK : k0 + ((i * 7 : Nat) : Int) = K at hnow ⊢
      have c0 : wr.cell? ⟨g, i * 7, none⟩ = some (.int .i64 K) := (h.cellAt (i * 7) (by omega)).trans (stepCells_at _ i _ 0 hnow (by decide))
      have c1 : wr.cell? ⟨g, i * 7 + 1, none⟩ = some (.int .i64 (K + 1)) := (h.cellAt (i * 7 + 1) (by omega)).trans (stepCells_at _ i _ 1 hnow (by decide))
      have c2 : wr.cell? ⟨g, i * 7 + 2, none⟩ = some (.int .i64 (K + 1 + 1)) := (h.cellAt (i * 7 + 2) (by omega)).trans (stepCells_at _ i _ 2 hnow (by decide))
      have c3 : wr.cell? ⟨g, i * 7 + 3, none⟩ = some (.int .i64 (K + 1 + 1 + 1)) := (h.cellAt (i * 7 + 3) (by omega)).trans (stepCells_at _ i _ 3 hnow (by decide))
      have c4 : wr.cell? ⟨g, i * 7 + 4, none⟩ = some (.int .i64 (K + 1 + 1 + 1 + 1)) := (h.cellAt (i * 7 + 4) (by omega)).trans (stepCells_at _ i _ 4 hnow (by decide))
      have c5 : wr.cell? ⟨g, i * 7 + 5, none⟩ = some (.int .i64 (K + 1 + 1 + 1 + 1 + 1)) := (h.cellAt (i * 7 + 5) (by omega)).trans (stepCells_at _ i _ 5 hnow (by decide))
      have c6 : wr.cell? ⟨g, i * 7 + 6, none⟩ = some (.bool ((K + 1 + 1 + 1 + 1 + 1 + 1) % 3 == 0)) := (h.cellAt (i * 7 + 6) (by omega)).trans (stepCells_at _ i _ 6 hnow (by decide))
      have i0 : (0 : Int) ≤ (i : Int) := by omega
      have i1 : (i : Int) < (n : Int) := by omega
      have b1 : 0 ≤ K ∧ K ≤ 10000000 := by omega
      obtain ⟨b2, b3⟩ := b1
      have EK : Hid (k0 + ((i * 7 : Nat) : Int) = K) := hK
      clear hK hnow
      go_wp2
      go_roundw
      case rel =>
        have hK := EK.out
        exact ⟨i + 1, by omega, by go_num, by congr 1; omega, by simp⟩
      case measure => simp [intOf]; omega
    · obtain rfl : i = n := by omega
      go_wp2
      go_ret
      exact ⟨rfl, rfl⟩

/-- Steps that a call owns, as the walk meets them. -/
theorem steps_of {w : World} {base : Nat} {v : Value} {l : List Stp} (h : w.ownsRow base 50 7 v l.length (stepCells l)) : ∃ a b cap, v = .slice a l.length cap ∧ StepsAt w a b 0 l := by
  rcases h.2 with ⟨rfl, h0⟩ | ⟨g, cap, cur, rfl, _⟩
  · have : l = [] := List.eq_nil_of_length_eq_zero h0
    subst this
    exact ⟨none, 0, 0, rfl, ⟨fun h => absurd rfl h, fun h => absurd rfl h, fun i t hi => by simp at hi⟩⟩
  · exact ⟨some ⟨g, 0, none⟩, g, cap, rfl, steps_owned h⟩

theorem markPath_own (q s fr b k0 : Int) (v : Value) (base : Nat) (l : List Stp) (w : World) (hn : l.length ≤ 1048576) (hk : 0 ≤ k0 ∧ k0 ≤ 1000) (h : w.ownsRow base 50 7 v l.length (stepCells l)) :
    Calls Tryd.prog 11 #[.agg #[.int .i64 q, .int .i64 s, v, .int .i64 fr, .int .i64 b], .int .i64 k0] w
      fun e w' => e = .returned (.int .i64 (k0 + ((l.length * 7 : Nat) : Int))) ∧ w'.ownsRow base 50 7 v l.length (stepCells (markL k0 l.length)) ∧ w.grownBy w' v.ownBlock := by
  have hal := World.grownBy_alloc w (.cells #[.int .i64 q, .int .i64 s, v, .int .i64 fr, .int .i64 b] 31) v.ownBlock
  have ho := owns_below h ((Below.refl _ _).alloc (Nat.le_refl _) (.cells #[.int .i64 q, .int .i64 s, v, .int .i64 fr, .int .i64 b] 31))
  go_enter Tryd.func11, Tryd.ntmps11
  rcases h.2 with ⟨rfl, h0⟩ | ⟨g, cap, cur, rfl, _⟩
  · have : l = [] := List.eq_nil_of_length_eq_zero h0
    subst this
    go_wp2_with fail
    refine (markSteps_nil _ _).mono ?_
    rintro e w1 ⟨rfl, rfl⟩
    go_wp2
    go_ret
    exact ⟨by simp, World.ownsRow_nil _ _ _ _, hal⟩
  · go_wp2_with fail
    refine (markSteps_row _ g cap base l _ hn hk ho).mono ?_
    rintro e w1 ⟨rfl, ho1, hg1⟩
    go_wp2
    go_ret
    exact ⟨rfl, ho1, grown_over2 hal hg1⟩

theorem heldPath_own (q s fr b k0 : Int) (v : Value) (base n : Nat) (w : World) (hn : n ≤ 1048576) (hk : 0 ≤ k0 ∧ k0 ≤ 1000) (h : w.ownsRow base 50 7 v n (stepCells (markL k0 n))) :
    Calls Tryd.prog 12 #[.agg #[.int .i64 q, .int .i64 s, v, .int .i64 fr, .int .i64 b], .int .i64 k0] w
      fun e w' => e = .returned (.int .i64 (k0 + ((n * 7 : Nat) : Int))) ∧ Below w.heap.size w w' := by
  have ho := owns_below h ((Below.refl _ _).alloc (Nat.le_refl _) (.cells #[.int .i64 q, .int .i64 s, v, .int .i64 fr, .int .i64 b] 31))
  have hneg : ¬ (k0 + ((n * 7 : Nat) : Int) < 0) := by omega
  go_enter Tryd.func12, Tryd.ntmps12
  rcases h.2 with ⟨rfl, rfl⟩ | ⟨g, cap, cur, rfl, _⟩
  · have hk0 : ¬ (k0 < 0) := by omega
    go_wp2_with fail
    refine (heldSteps_nil _ _).mono ?_
    rintro e w1 ⟨rfl, rfl⟩
    go_wp2
    go_ret
    exact ⟨by simp, (Below.refl _ _).alloc (Nat.le_refl _) _⟩
  · generalize hM : k0 + ((n * 7 : Nat) : Int) = M at hneg ⊢
    go_wp2_with fail
    refine (heldSteps_row _ g cap base n _ hn hk ho).mono ?_
    rw [hM]
    rintro e w1 ⟨rfl, rfl⟩
    go_wp2
    go_ret
    exact ⟨rfl, (Below.refl _ _).alloc (Nat.le_refl _) _⟩
end Go.Proofs.YtlcblcoodabpeaaDoor

namespace Go.Proofs.YtlcblcoodabpeaaDoor
open Go.RowKit

theorem eqKind_same (q s : Int) (w : World) :
    Calls Tryd.prog 30 #[.agg #[.int .i64 q, .int .i64 s], .agg #[.int .i64 q, .int .i64 s]] w fun e w' => e = .returned (.bool true) ∧ Below w.heap.size w w' := by
  go_enter Tryd.func30, Tryd.ntmps30
  go_wp2
  go_ret
  exact ⟨rfl, ((Below.refl _ _).alloc (Nat.le_refl _) _).alloc (by simp) _⟩

theorem eqStep_same (x y lo hi fr b : Int) (ho : Bool) (w : World) :
    Calls Tryd.prog 51 #[.agg #[.int .i64 x, .int .i64 y, .int .i64 lo, .int .i64 hi, .int .i64 fr, .int .i64 b, .bool ho], .agg #[.int .i64 x, .int .i64 y, .int .i64 lo, .int .i64 hi, .int .i64 fr, .int .i64 b, .bool ho]] w
      fun e w' => e = .returned (.bool true) ∧ Below w.heap.size w w' := by
  go_enter Tryd.func51, Tryd.ntmps51
  go_wp2
  go_ret
  exact ⟨rfl, ((Below.refl _ _).alloc (Nat.le_refl _) _).alloc (by simp) _⟩

set_option maxHeartbeats 1000000 in
theorem eqSteps_same (a a' : Option Addr) (b o cap b' o' cap' : Nat) (l : List Stp) (w : World) (hl : l.length ≤ 1048576) (hs : StepsAt w a b o l) (hs' : StepsAt w a' b' o' l) :
    Calls Tryd.prog 31 #[.slice a l.length cap, .slice a' l.length cap'] w fun e w' => e = .returned (.bool true) ∧ Below w.heap.size w w' := by
  go_enter Tryd.func31, Tryd.ntmps31
  go_wp2
  go_loopw [5] (fun v wr => ∃ k : Nat, k ≤ l.length ∧ v = .int .i64 k ∧ Below w.heap.size w wr) (fun v _ => l.length - (intOf v).toNat)
  case atStart => exact ⟨0, Nat.zero_le _, rfl, Below.refl _ _⟩
  case round =>
    obtain ⟨k, hk, rfl, hb⟩ := hrel
    by_cases hlt : k < l.length
    · obtain ⟨s, hsk⟩ : ∃ s, l[k]? = some s := ⟨l[k], List.getElem?_eq_getElem hlt⟩
      have hne : l ≠ [] := by intro e; subst e; simp at hlt
      obtain rfl := hs.here hne
      obtain rfl := hs'.here hne
      have hbw := hs.lt hne
      have hbw' := hs'.lt hne
      obtain ⟨c0, c1, c2, c3, c4, c5, c6⟩ := (hs.below hb (fun _ => hbw)).seven hsk
      obtain ⟨d0, d1, d2, d3, d4, d5, d6⟩ := (hs'.below hb (fun _ => hbw')).seven hsk
      have k0 : (0 : Int) ≤ (k : Int) := by omega
      have k1 : (k : Int) < (l.length : Int) := by omega
      have hbx : b < wr.heap.size := Nat.lt_of_lt_of_le hbw hb.size
      have hbx' : b' < wr.heap.size := Nat.lt_of_lt_of_le hbw' hb.size
      have HS : Hid (l[k]? = some s) := hsk
      clear hsk
      go_wp2
      go_region_held3 (fun w' => w'.cell? ⟨b, o + k * 7, none⟩ = some (.int .i64 s.x) ∧ w'.cell? ⟨b, o + k * 7 + 1, none⟩ = some (.int .i64 s.y) ∧ w'.cell? ⟨b, o + k * 7 + 2, none⟩ = some (.int .i64 s.lo) ∧ w'.cell? ⟨b, o + k * 7 + 3, none⟩ = some (.int .i64 s.hi) ∧ w'.cell? ⟨b, o + k * 7 + 4, none⟩ = some (.int .i64 s.fr) ∧ w'.cell? ⟨b, o + k * 7 + 5, none⟩ = some (.int .i64 s.by_) ∧ w'.cell? ⟨b, o + k * 7 + 6, none⟩ = some (.bool s.ho) ∧
        w'.cell? ⟨b', o' + k * 7, none⟩ = some (.int .i64 s.x) ∧ w'.cell? ⟨b', o' + k * 7 + 1, none⟩ = some (.int .i64 s.y) ∧ w'.cell? ⟨b', o' + k * 7 + 2, none⟩ = some (.int .i64 s.lo) ∧ w'.cell? ⟨b', o' + k * 7 + 3, none⟩ = some (.int .i64 s.hi) ∧ w'.cell? ⟨b', o' + k * 7 + 4, none⟩ = some (.int .i64 s.fr) ∧ w'.cell? ⟨b', o' + k * 7 + 5, none⟩ = some (.int .i64 s.by_) ∧ w'.cell? ⟨b', o' + k * 7 + 6, none⟩ = some (.bool s.ho))
        (simp [go_sem, *])
        (first | (go_at_call 51; refine (eqStep_same _ _ _ _ _ _ _ _).mono ?_; rintro e w1 ⟨rfl, hb1⟩; have hc1 : ∀ j, w1.cell? ⟨b, j, none⟩ = wr.cell? ⟨b, j, none⟩ := fun j => hb1.cell (p := ⟨b, j, none⟩) hbx; have hc2 : ∀ j, w1.cell? ⟨b', j, none⟩ = wr.cell? ⟨b', j, none⟩ := fun j => hb1.cell (p := ⟨b', j, none⟩) hbx'))
      go_wp2
      go_roundw
      case rel => exact ⟨k + 1, by omega, by go_num, hb.drew.trans (hb1.mono hb.size)⟩
      case measure => simp [intOf]; omega
    · go_wp2
      go_ret
      exact ⟨rfl, hb⟩

set_option maxHeartbeats 1000000 in
theorem eqPath_same (q s fr b : Int) (a a' : Option Addr) (b0 o cap b0' o' cap' : Nat) (l : List Stp) (w : World) (hl : l.length ≤ 1048576) (hs : StepsAt w a b0 o l) (hs' : StepsAt w a' b0' o' l) :
    Calls Tryd.prog 10 #[.agg #[.int .i64 q, .int .i64 s, .slice a l.length cap, .int .i64 fr, .int .i64 b], .agg #[.int .i64 q, .int .i64 s, .slice a' l.length cap', .int .i64 fr, .int .i64 b]] w
      fun e w' => e = .returned (.bool true) ∧ Below w.heap.size w w' := by
  go_enter Tryd.func10, Tryd.ntmps10
  go_wp2_with fail
  refine (eqKind_same _ _ _).mono ?_
  rintro e w1 ⟨rfl, hb1⟩
  obtain ⟨hc1, _⟩ := old_cells hb1
  have hz1 := hb1.size
  simp at hz1
  have hb01 : Below w.heap.size w w1 := (((Below.refl w.heap.size w).alloc (Nat.le_refl _) _).alloc (by simp) _).trans (hb1.mono (by simp; omega))
  have hC1 : ∀ b o, b < w.heap.size + 2 → w1.cell? ⟨b, o, none⟩ = _ := fun b o h => hc1 b o (by simp; omega)
  have a2 : w1.cell? ⟨w.heap.size, 2, none⟩ = some (.slice a l.length cap) := by rw [hC1 _ _ (by omega)]; simp [go_sem]
  have a3 : w1.cell? ⟨w.heap.size, 3, none⟩ = some (.int .i64 fr) := by rw [hC1 _ _ (by omega)]; simp [go_sem]
  have a4 : w1.cell? ⟨w.heap.size, 4, none⟩ = some (.int .i64 b) := by rw [hC1 _ _ (by omega)]; simp [go_sem]
  have d2 : w1.cell? ⟨w.heap.size + 1, 2, none⟩ = some (.slice a' l.length cap') := by rw [hC1 _ _ (by omega)]; simp [go_sem]
  have d3 : w1.cell? ⟨w.heap.size + 1, 3, none⟩ = some (.int .i64 fr) := by rw [hC1 _ _ (by omega)]; simp [go_sem]
  have d4 : w1.cell? ⟨w.heap.size + 1, 4, none⟩ = some (.int .i64 b) := by rw [hC1 _ _ (by omega)]; simp [go_sem]
  clear hc1 hC1
  go_wp2_with fail
  refine (eqSteps_same _ _ b0 o _ b0' o' _ _ _ hl (hs.below hb01 hs.lt) (hs'.below hb01 hs'.lt)).mono ?_
  rintro e w2 ⟨rfl, hb2⟩
  have z : w.heap.size + 1 < w1.heap.size := by omega
  have e3 : w2.cell? ⟨w.heap.size, 3, none⟩ = some (.int .i64 fr) := (hb2.cell (p := ⟨w.heap.size, 3, none⟩) (by show w.heap.size < _; omega)).trans a3
  have e4 : w2.cell? ⟨w.heap.size, 4, none⟩ = some (.int .i64 b) := (hb2.cell (p := ⟨w.heap.size, 4, none⟩) (by show w.heap.size < _; omega)).trans a4
  have g3 : w2.cell? ⟨w.heap.size + 1, 3, none⟩ = some (.int .i64 fr) := (hb2.cell (p := ⟨w.heap.size + 1, 3, none⟩) z).trans d3
  have g4 : w2.cell? ⟨w.heap.size + 1, 4, none⟩ = some (.int .i64 b) := (hb2.cell (p := ⟨w.heap.size + 1, 4, none⟩) z).trans d4
  go_wp2
  go_ret
  exact ⟨rfl, hb01.trans (hb2.mono (by omega))⟩
end Go.Proofs.YtlcblcoodabpeaaDoor

namespace Go.Proofs.YtlcblcoodabpeaaDoor
open Go.RowKit

/-- Two paths with the same numbers in rows that calls own. -/
theorem eqOwned {A : Ans} {v v' : Value} {base base' : Nat} {w : World} (hA : A.l.length ≤ 1048576) (h : w.ownsRow base 50 7 v A.l.length (stepCells A.l)) (h' : w.ownsRow base' 50 7 v' A.l.length (stepCells A.l)) :
    Calls Tryd.prog 10 #[.agg #[.int .i64 A.q, .int .i64 A.s, v, .int .i64 A.fr, .int .i64 A.b], .agg #[.int .i64 A.q, .int .i64 A.s, v', .int .i64 A.fr, .int .i64 A.b]] w fun e w' => e = .returned (.bool true) ∧ Below w.heap.size w w' := by
  obtain ⟨a, b, cap, rfl, hs⟩ := steps_of h
  obtain ⟨a', b', cap', rfl, hs'⟩ := steps_of h'
  exact eqPath_same _ _ _ _ _ _ b 0 _ b' 0 _ _ _ hA hs hs'

/-- The picture of memory: B3, B5 the boxes of the two answers, r3, r5 their rows. -/
structure Pic (w wr : World) (q s fr b : Int) (va : Value) (A : Ans) (r3 B3 B5 r5 : Nat) (v3 v5 : Value) (M : List Stp) : Prop where
  box : BoxP w wr q s fr b va
  w0 : PathAt wr B3 A.q A.s A.fr A.b v3
  g0 : PathAt wr B5 A.q A.s A.fr A.b v5
  r3 : wr.ownsRow r3 50 7 v3 A.l.length (stepCells A.l)
  r5 : wr.ownsRow r5 50 7 v5 M.length (stepCells M)
section
variable {w wr w' : World} {q s fr b : Int} {va : Value} {A : Ans} {r3 B3 B5 r5 : Nat} {v3 v5 : Value} {M : List Stp}
theorem Pic.below (h : Pic w wr q s fr b va A r3 B3 B5 r5 v3 v5 M) (hb : Below wr.heap.size wr w') : Pic w w' q s fr b va A r3 B3 B5 r5 v3 v5 M :=
  ⟨h.box.below hb, h.w0.keep hb h.w0.lt, h.g0.keep hb h.g0.lt, owns_below h.r3 hb, owns_below h.r5 hb⟩
theorem Pic.eq (h : Pic w wr q s fr b va A r3 B3 B5 r5 v3 v5 A.l) (hA : A.l.length ≤ 1048576) :
    Calls Tryd.prog 10 #[.agg #[.int .i64 A.q, .int .i64 A.s, v5, .int .i64 A.fr, .int .i64 A.b], .agg #[.int .i64 A.q, .int .i64 A.s, v3, .int .i64 A.fr, .int .i64 A.b]] wr fun e w' => e = .returned (.bool true) ∧ Below wr.heap.size wr w' := eqOwned hA h.r5 h.r3
theorem pathAt_grown {P : Nat} {v : Value} {row : Option Nat} (h : PathAt wr P q s fr b v) (hg : wr.grownBy w' row) (hne : ∀ k, row = some k → k ≠ P) : PathAt w' P q s fr b v := h.grown hg (fun e => hne P e rfl)
theorem row_kept {base n : Nat} {v : Value} {xs : List Value} {row : Option Nat} (h : wr.ownsRow base 50 7 v n xs) (hg : wr.grownBy w' row) (hne : ∀ k k', row = some k → v.ownBlock = some k' → k ≠ k') : w'.ownsRow base 50 7 v n xs :=
  h.kept hg (by
    cases hv : v.ownBlock with
    | none => exact Or.inl rfl
    | some k => exact Or.inr (fun e => hne k k e.symm hv rfl))
theorem Pic.grown {row : Option Nat} (h : Pic w wr q s fr b va A r3 B3 B5 r5 v3 v5 M) (hg : wr.grownBy w' row) (h0 : ∀ k, row = some k → w.heap.size < k) (h3 : ∀ k, row = some k → k ≠ B3) (h5 : ∀ k, row = some k → k ≠ B5)
    (k3 : ∀ k k', row = some k → v3.ownBlock = some k' → k ≠ k') (k5 : ∀ k k', row = some k → v5.ownBlock = some k' → k ≠ k') : Pic w w' q s fr b va A r3 B3 B5 r5 v3 v5 M :=
  ⟨h.box.keep ((Below.refl _ _).grown hg h.box.lt (fun k e => by have := h0 k e; omega)), pathAt_grown h.w0 hg h3, pathAt_grown h.g0 hg h5, row_kept h.r3 hg k3, row_kept h.r5 hg k5⟩
theorem Pic.marked {M' : List Stp} (h : Pic w wr q s fr b va A r3 B3 B5 r5 v3 v5 M) (hg : wr.grownBy w' v5.ownBlock) (hr : w'.ownsRow r5 50 7 v5 M'.length (stepCells M')) (h0 : ∀ k, v5.ownBlock = some k → w.heap.size < k) (h3 : ∀ k, v5.ownBlock = some k → k ≠ B3) (h5 : ∀ k, v5.ownBlock = some k → k ≠ B5)
    (k3 : ∀ k k', v5.ownBlock = some k → v3.ownBlock = some k' → k ≠ k') : Pic w w' q s fr b va A r3 B3 B5 r5 v3 v5 M' :=
  ⟨h.box.keep ((Below.refl _ _).grown hg h.box.lt (fun k e => by have := h0 k e; omega)), pathAt_grown h.w0 hg h3, pathAt_grown h.g0 hg h5, row_kept h.r3 hg k3, hr⟩
end
end Go.Proofs.YtlcblcoodabpeaaDoor

namespace Go.Proofs.YtlcblcoodabpeaaDoor
open Go.RowKit

theorem restLaw_big (q s fr b st en nw : Int) (a : Option Addr) (n cap : Nat) (w : World) (hn : n ≤ maxLen) (hbig : 1048576 < n) :
    Calls Tryd.prog 3 #[.agg #[.int .i64 q, .int .i64 s, .slice a n cap, .int .i64 fr, .int .i64 b], .int .i64 st, .int .i64 en, .int .i64 nw] w fun e w' => e = .returned (.bool true) ∧ Below w.heap.size w w' := by
  have e1 : leftB 1048576 n = -1 := by unfold leftB; rw [if_pos (by omega)]
  go_enter Tryd.func3, Tryd.ntmps3
  go_wp2_with (go_at_call 6; refine (szPath_any _ _ _ _ _ _ _ _ _ hn (by omega) (by omega)).mono ?_; rintro e w1 ⟨rfl, hb1⟩)
  go_ret
  exact ⟨rfl, ((Below.refl _ _).alloc (Nat.le_refl _) _).trans (hb1.mono (by simp))⟩

set_option maxRecDepth 20000 in
set_option maxHeartbeats 8000000 in
theorem restLaw_any (A : Ans) (q s fr b st en nw : Int) (a : Option Addr) (b0 o cap : Nat) (l : List Stp) (w : World) (hl : l.length ≤ 1048576) (hs : StepsAt w a b0 o l) (hA : A.l.length ≤ 1048576)
    (hS : ∀ (a : Option Addr) (b0 o cap : Nat) (W : World), l.length ≤ cap → Below w.heap.size w W → StepsAt W a b0 o l → Calls Tryd.prog 7 #[.agg #[.int .i64 q, .int .i64 s, .slice a l.length cap, .int .i64 fr, .int .i64 b], .int .i64 st, .int .i64 en, .int .i64 nw] W (Gives A W))
    (hI : ∀ (a : Option Addr) (b0 o cap : Nat) (W : World), l.length ≤ cap → Below w.heap.size w W → StepsAt W a b0 o l → Calls Tryd.prog 9 #[.agg #[.int .i64 q, .int .i64 s, .slice a l.length cap, .int .i64 fr, .int .i64 b], .int .i64 st, .int .i64 en, .int .i64 nw] W (Gives A W)) :
    Calls Tryd.prog 3 #[.agg #[.int .i64 q, .int .i64 s, .slice a l.length cap, .int .i64 fr, .int .i64 b], .int .i64 st, .int .i64 en, .int .i64 nw] w fun e w' => e = .returned (.bool true) ∧ Below w.heap.size w w' := by
  have e1 : 0 ≤ leftB 1048576 l.length := by unfold leftB; rw [if_neg (by omega)]; omega
  have hB0 := BoxP.new w q s fr b (.slice a l.length cap) 26
  have hsB : ∀ {wr : World}, BoxP w wr q s fr b (.slice a l.length cap) → StepsAt wr a b0 o l := fun h => hs.below h.old hs.lt
  go_enter Tryd.func3, Tryd.ntmps3
  go_wp2_with fail
  refine (szPath_any _ _ _ _ _ _ _ _ _ (by unfold maxLen; omega) (by omega) (by omega)).mono ?_
  rintro e w1 ⟨rfl, hb1⟩
  have hB1 := hB0.below hb1
  clear hb1 hB0
  have c0 := hB1.p0
  have c1 := hB1.p1
  have c2 := hB1.p2
  have c3 := hB1.p3
  have c4 := hB1.p4
  go_wp2_with fail
  refine (toPath_any _ _ _ _ _ b0 o _ _ _ hl (hsB hB1)).mono ?_
  rintro e w2 ⟨g2, rfl, hg2, hg2', hs2, hb2⟩
  have hB2 := hB1.below hb2
  clear c0 c1 c2 c3 c4
  go_wp2_with fail
  refine (hS _ g2 0 _ _ (Nat.le_refl _) hB2.old hs2).mono ?_
  rintro e w3 ⟨v3, rfl, ho3, hb3⟩
  obtain ⟨a3, j3, k3, hv3, _⟩ := steps_of ho3
  subst hv3
  have hB3 := hB2.below hb3
  have z2 := hB2.lt
  have z3 := hB3.lt
  have o3 := owns_lt ho3
  have W3 := PathAt.new w3 A.q A.s A.fr A.b (.slice a3 A.l.length k3)
  have al3 : Below w3.heap.size w3 (w3.alloc (.cells #[.int .i64 A.q, .int .i64 A.s, (.slice a3 A.l.length k3), .int .i64 A.fr, .int .i64 A.b] 31)) := (Below.refl _ _).alloc (Nat.le_refl _) _
  have hB3' := hB3.below al3
  have ho3' := owns_below ho3 al3
  have s3 : (w3.alloc (.cells #[.int .i64 A.q, .int .i64 A.s, (.slice a3 A.l.length k3), .int .i64 A.fr, .int .i64 A.b] 31)).heap.size = w3.heap.size + 1 := World.size_alloc _ _
  clear hb2 hb3 hs2 hB1 hB2 hB3 al3 ho3 hg2 hg2'
  have c0 := hB3'.p0
  have c1 := hB3'.p1
  have c2 := hB3'.p2
  have c3 := hB3'.p3
  have c4 := hB3'.p4
  go_wp2_with fail
  refine (toPath_more _ _ _ _ _ b0 o _ _ _ hl (hsB hB3')).mono ?_
  rintro e w4 ⟨g4, rfl, hg4, hg4', hs4, hb4, hth4⟩
  rw [s3] at hg4
  have hB4 := hB3'.below hb4
  have ho4 := owns_below ho3' hb4
  have W4 := W3.keep hb4 W3.lt
  have X4 := PathAt.new w4 q s fr b (.slice (some ⟨g4, 0, none⟩) l.length l.length)
  have al4 : Below w4.heap.size w4 (w4.alloc (.cells #[.int .i64 q, .int .i64 s, .slice (some ⟨g4, 0, none⟩) l.length l.length, .int .i64 fr, .int .i64 b] 31)) := (Below.refl _ _).alloc (Nat.le_refl _) _
  have s4 : (w4.alloc (.cells #[.int .i64 q, .int .i64 s, .slice (some ⟨g4, 0, none⟩) l.length l.length, .int .i64 fr, .int .i64 b] 31)).heap.size = w4.heap.size + 1 := World.size_alloc _ _
  clear c0 c1 c2 c3 c4 hB3' W3 ho3' hb4 s3
  go_wp2_with fail
  refine (hI _ g4 0 _ _ (Nat.le_refl _) (hB4.old.trans (al4.mono hB4.old.size)) (hs4.alloc _)).mono ?_
  rintro e w5 ⟨v5, rfl, ho5, hb5⟩
  obtain ⟨a5, j5, k5, hv5, _⟩ := steps_of ho5
  subst hv5
  have hb45 : Below w4.heap.size w4 w5 := al4.trans (hb5.mono (by rw [s4]; omega))
  have d5 : ∀ k, (Value.slice a5 A.l.length k5).ownBlock = some k → w4.heap.size < k ∧ k < w5.heap.size := fun k e => by have h1 := owns_base ho5 k e; have h2 := owns_lt ho5 k e; rw [s4] at h1; omega
  have G5 := PathAt.new w5 A.q A.s A.fr A.b (.slice a5 A.l.length k5)
  have al5 : Below w5.heap.size w5 (w5.alloc (.cells #[.int .i64 A.q, .int .i64 A.s, (.slice a5 A.l.length k5), .int .i64 A.fr, .int .i64 A.b] 31)) := (Below.refl _ _).alloc (Nat.le_refl _) _
  have hb45' : Below w4.heap.size w4 (w5.alloc (.cells #[.int .i64 A.q, .int .i64 A.s, (.slice a5 A.l.length k5), .int .i64 A.fr, .int .i64 A.b] 31)) := hb45.trans (al5.mono hb45.size)
  have X5 := (X4.keep hb5 X4.lt).keep al5 (X4.keep hb5 X4.lt).lt
  have P5 : Pic w (w5.alloc (.cells #[.int .i64 A.q, .int .i64 A.s, (.slice a5 A.l.length k5), .int .i64 A.fr, .int .i64 A.b] 31)) q s fr b (.slice a l.length cap) A w2.heap.size w3.heap.size w5.heap.size (w4.heap.size + 1) (.slice a3 A.l.length k3) (.slice a5 A.l.length k5) A.l := ⟨hB4.below hb45', W4.keep hb45' W4.lt, G5, owns_below ho4 hb45', by have := owns_below ho5 al5; rw [s4] at this; exact this⟩
  have hth5 : ∀ i, i < l.length → (w5.alloc (.cells #[.int .i64 A.q, .int .i64 A.s, (.slice a5 A.l.length k5), .int .i64 A.fr, .int .i64 A.b] 31)).there g4 (i * 7) 7 := fun i hi => there_below (hth4 i hi) hb45' hg4'
  have hs5 := hs4.below hb45' (fun _ => hg4')
  have z4 := W4.lt
  have z5 : w4.heap.size < w5.heap.size := Nat.lt_of_lt_of_le (by rw [s4]; omega) hb5.size
  have hgl5 : g4 < (w5.alloc (.cells #[.int .i64 A.q, .int .i64 A.s, (.slice a5 A.l.length k5), .int .i64 A.fr, .int .i64 A.b] 31)).heap.size := Nat.lt_of_lt_of_le hg4' hb45'.size
  clear hb5 hb45 hb45' al4 al5 X4 G5 ho4 ho5 hB4 W4 hs4 hth4
  obtain ⟨⟨m0, m1, m2, m3, m4⟩, _⟩ := P5.g0.cells
  obtain ⟨⟨n0, n1, n2, n3, n4⟩, _⟩ := P5.w0.cells
  go_wp2_with fail
  refine (P5.eq hA).mono ?_
  rintro e w6 ⟨rfl, hb6⟩
  have P6 := P5.below hb6
  have X6 := X5.keep hb6 X5.lt
  have hth6 : ∀ i, i < l.length → w6.there g4 (i * 7) 7 := fun i hi => there_below (hth5 i hi) hb6 hgl5
  have hs6 := hs5.below hb6 (fun _ => hgl5)
  have hg6 : g4 < w6.heap.size := Nat.lt_of_lt_of_le hgl5 hb6.size
  clear m0 m1 m2 m3 m4 n0 n1 n2 n3 n4 hb6 P5 X5 hth5 hs5 hgl5
  have c0 := P6.box.p0
  have c1 := P6.box.p1
  have c2 := P6.box.p2
  have c3 := P6.box.p3
  have c4 := P6.box.p4
  obtain ⟨⟨y0, y1, y2, y3, y4⟩, _⟩ := X6.cells
  have zc := P6.box.lt
  have zy := X6.lt
  have hs6d : StepsAt w6.drew (some ⟨g4, 0, none⟩) g4 0 l := hs6.below ((Below.refl w6.heap.size w6).drew) hs6.lt
  have hsd : StepsAt w6.drew a b0 o l := (hsB P6.box).below ((Below.refl w6.heap.size w6).drew) (hsB P6.box).lt
  have hg6d : g4 < w6.drew.heap.size := hg6
  go_wp2
  go_region_held3 (fun w' => w'.cell? ⟨w.heap.size, 0, none⟩ = some (.int .i64 q) ∧ w'.cell? ⟨w.heap.size, 1, none⟩ = some (.int .i64 s) ∧ w'.cell? ⟨w.heap.size, 2, none⟩ = some (.slice a l.length cap) ∧ w'.cell? ⟨w.heap.size, 3, none⟩ = some (.int .i64 fr) ∧ w'.cell? ⟨w.heap.size, 4, none⟩ = some (.int .i64 b) ∧
      w'.cell? ⟨w4.heap.size, 0, none⟩ = some (.int .i64 q) ∧ w'.cell? ⟨w4.heap.size, 1, none⟩ = some (.int .i64 s) ∧ w'.cell? ⟨w4.heap.size, 2, none⟩ = some (.slice (some ⟨g4, 0, none⟩) l.length l.length) ∧ w'.cell? ⟨w4.heap.size, 3, none⟩ = some (.int .i64 fr) ∧ w'.cell? ⟨w4.heap.size, 4, none⟩ = some (.int .i64 b))
    (simp [go_sem, *])
    (first
      | (go_at_call 8; refine (toPath_any _ _ _ _ _ b0 o _ _ _ hl hsd).mono ?_; rintro e w7 ⟨g7, rfl, hg7, hg7', hs7, hb7⟩; have n0 : ∀ j, w7.cell? ⟨w.heap.size, j, none⟩ = w6.cell? ⟨w.heap.size, j, none⟩ := fun j => hb7.cell (p := ⟨w.heap.size, j, none⟩) zc; have n1 : ∀ j, w7.cell? ⟨w4.heap.size, j, none⟩ = w6.cell? ⟨w4.heap.size, j, none⟩ := fun j => hb7.cell (p := ⟨w4.heap.size, j, none⟩) zy)
      | (go_at_call 10; refine (eqPath_same _ _ _ _ _ _ g4 0 _ g7 0 _ _ _ hl (hs6d.below hb7 (fun _ => hg6d)) hs7).mono ?_; rintro e w8 ⟨rfl, hb8⟩; have n2 : ∀ j, w8.cell? ⟨w.heap.size, j, none⟩ = w7.cell? ⟨w.heap.size, j, none⟩ := fun j => hb8.cell (p := ⟨w.heap.size, j, none⟩) (Nat.lt_of_lt_of_le zc hb7.size); have n3 : ∀ j, w8.cell? ⟨w4.heap.size, j, none⟩ = w7.cell? ⟨w4.heap.size, j, none⟩ := fun j => hb8.cell (p := ⟨w4.heap.size, j, none⟩) (Nat.lt_of_lt_of_le zy hb7.size)))
  have hb68 : Below w6.heap.size w6 w8 := ((Below.refl w6.heap.size w6).drew).trans (hb7.trans (hb8.mono hb7.size))
  have P8 := P6.below hb68
  have X8 := X6.keep hb68 X6.lt
  have hth8 : ∀ i, i < l.length → w8.there g4 (i * 7) 7 := fun i hi => there_below (hth6 i hi) hb68 hg6
  have hg8 : g4 < w8.heap.size := Nat.lt_of_lt_of_le hg6 hb68.size
  clear c0 c1 c2 c3 c4 y0 y1 y2 y3 y4 n0 n1 n2 n3 hb7 hb8 hs7 hs6d hsd hs6 hb68 P6 X6 hth6 hg6 zc zy hg7 hg7' hg6d
  obtain ⟨⟨y0, y1, y2, y3, y4⟩, _⟩ := X8.cells
  go_wp2_with fail
  refine (markPath_any _ _ _ _ _ g4 _ l.length _ hl (by omega) hg8 hth8).mono ?_
  rintro e w9 ⟨rfl, hg9⟩
  have P9 := P8.grown hg9 (fun k e => by cases e; omega) (fun k e => by cases e; omega) (fun k e => by cases e; omega) (fun k k' e e' => by cases e; have := o3 k' e'; omega) (fun k k' e e' => by cases e; have := (d5 k' e').1; omega)
  clear y0 y1 y2 y3 y4 X8 P8 hth8 hg8 hg9
  have hk9 : ¬ (1 + ((l.length * 7 : Nat) : Int) < 0) := by omega
  generalize hmk : (1 : Int) + ((l.length * 7 : Nat) : Int) = mk9 at hk9 ⊢
  clear hmk
  obtain ⟨⟨m0, m1, m2, m3, m4⟩, _⟩ := P9.g0.cells
  obtain ⟨⟨n0, n1, n2, n3, n4⟩, _⟩ := P9.w0.cells
  go_wp2_with fail
  refine (P9.eq hA).mono ?_
  rintro e w10 ⟨rfl, hb10⟩
  have P10 := P9.below hb10
  clear m0 m1 m2 m3 m4 n0 n1 n2 n3 n4 hb10 P9
  obtain ⟨⟨m0, m1, m2, m3, m4⟩, _⟩ := P10.g0.cells
  go_wp2_with fail
  refine (markPath_own _ _ _ _ 1 (.slice a5 A.l.length k5) _ A.l w10 hA (by omega) P10.r5).mono ?_
  rintro e w11 ⟨rfl, hr11, hg11⟩
  have P11 : Pic w w11 q s fr b (.slice a l.length cap) A w2.heap.size w3.heap.size w5.heap.size (w4.heap.size + 1) (.slice a3 A.l.length k3) (.slice a5 A.l.length k5) (markL 1 A.l.length) := P10.marked hg11 (by rw [markL_length]; exact hr11) (fun k e => by have := d5 k e; omega) (fun k e => by have := d5 k e; omega) (fun k e => by have := d5 k e; omega) (fun k k' e e' => by have := d5 k e; have := o3 k' e'; omega)
  clear hg11 hr11 P10 m0 m1 m2 m3 m4
  have hm11 : ¬ (1 + ((A.l.length * 7 : Nat) : Int) < 0) := by omega
  obtain ⟨mk, hmk⟩ : ∃ mk : Int, 1 + ((A.l.length * 7 : Nat) : Int) = mk := ⟨_, rfl⟩
  have HH : ∀ W : World, Pic w W q s fr b (.slice a l.length cap) A w2.heap.size w3.heap.size w5.heap.size (w4.heap.size + 1) (.slice a3 A.l.length k3) (.slice a5 A.l.length k5) (markL 1 A.l.length) →
      Calls Tryd.prog 12 #[.agg #[.int .i64 A.q, .int .i64 A.s, (.slice a5 A.l.length k5), .int .i64 A.fr, .int .i64 A.b], .int .i64 1] W fun e w' => e = .returned (.int .i64 mk) ∧ Below W.heap.size W w' := fun W hW => by rw [← hmk]; exact heldPath_own _ _ _ _ 1 (.slice a5 A.l.length k5) _ _ W hA (by omega) (by have := hW.r5; rw [markL_length] at this; exact this)
  rw [hmk] at hm11 ⊢
  clear hmk
  obtain ⟨⟨m0, m1, m2, m3, m4⟩, _⟩ := P11.g0.cells
  go_wp2_with fail
  refine (HH w11 P11).mono ?_
  rintro e w12 ⟨rfl, hb12⟩
  have P12 := P11.below hb12
  clear m0 m1 m2 m3 m4 P11 hb12
  have c0 := P12.box.p0
  have c1 := P12.box.p1
  have c2 := P12.box.p2
  have c3 := P12.box.p3
  have c4 := P12.box.p4
  go_wp2_with fail
  refine (toPath_any _ _ _ _ _ b0 o _ _ _ hl (hsB P12.box)).mono ?_
  rintro e w13 ⟨g13, rfl, hg13, hg13', hs13, hb13⟩
  have P13 := P12.below hb13
  clear hb13 P12 c0 c1 c2 c3 c4
  go_wp2_with fail
  refine (hI _ g13 0 _ _ (Nat.le_refl _) P13.box.old hs13).mono ?_
  rintro e w14 ⟨v14, rfl, ho14, hb14⟩
  obtain ⟨a14, j14, k14, hv14, _⟩ := steps_of ho14
  subst hv14
  have P14 := (P13.below hb14).below ((Below.refl _ _).alloc (Nat.le_refl _) (.cells #[.int .i64 A.q, .int .i64 A.s, (.slice a14 A.l.length k14), .int .i64 A.fr, .int .i64 A.b] 31))
  have H14 := PathAt.new w14 A.q A.s A.fr A.b (.slice a14 A.l.length k14)
  have hr14 := owns_below ho14 ((Below.refl _ _).alloc (Nat.le_refl _) (.cells #[.int .i64 A.q, .int .i64 A.s, (.slice a14 A.l.length k14), .int .i64 A.fr, .int .i64 A.b] 31))
  clear hb14 P13 ho14
  obtain ⟨⟨m0, m1, m2, m3, m4⟩, _⟩ := H14.cells
  obtain ⟨⟨n0, n1, n2, n3, n4⟩, _⟩ := P14.w0.cells
  go_wp2_with fail
  refine (eqOwned hA hr14 P14.r3).mono ?_
  rintro e w15 ⟨rfl, hb15⟩
  have P15 := P14.below hb15
  clear m0 m1 m2 m3 m4 n0 n1 n2 n3 n4 H14 hr14 P14 hb15
  obtain ⟨⟨m0, m1, m2, m3, m4⟩, _⟩ := P15.g0.cells
  go_wp2_with fail
  refine (HH w15 P15).mono ?_
  rintro e w16 ⟨rfl, hb16⟩
  have P16 := P15.below hb16
  clear m0 m1 m2 m3 m4 hb16 P15 HH
  go_wp2
  go_ret
  exact ⟨rfl, P16.box.old⟩
end Go.Proofs.YtlcblcoodabpeaaDoor

namespace Go.Proofs.YtlcblcoodabpeaaDoor
open Go.RowKit

/-- The steps from one on lie where the later part of the row lies. -/
theorem StepsAt.tail0 {w : World} {a : Option Addr} {b o : Nat} {l : List Stp} (h : StepsAt w a b o l) (k : Nat) : StepsAt w (some ⟨b, o + k * 7, none⟩) b (o + k * 7) (l.drop k) where
  here _ := rfl
  lt hl := h.lt (by intro e; subst e; simp at hl)
  cell i s hi j u hu := by
    rw [List.getElem?_drop] at hi
    have := h.cell (k + i) s hi j u hu
    rw [show o + k * 7 + i * 7 + j = o + (k + i) * 7 + j by omega]
    exact this

end Go.Proofs.YtlcblcoodabpeaaDoor

namespace Go.Proofs.YtlcblcoodabpeaaDoor
open Go.RowKit

set_option maxRecDepth 20000 in
set_option maxHeartbeats 4000000 in
theorem tailS_any (q s fr b : Int) (k : Nat) (a : Option Addr) (b0 o cap : Nat) (l : List Stp) (w : World) (hl : l.length ≤ 1048576) (hs : StepsAt w a b0 o l) (hcap : l.length ≤ cap) (hk : k < l.length) :
    Calls Tryd.prog 20 #[.agg #[.int .i64 q, .int .i64 s, .slice a l.length cap, .int .i64 fr, .int .i64 b], .int .i64 (k : Int)] w
      fun e w' => ∃ g gc, e = .returned (.agg #[.int .i64 q, .int .i64 s, .slice (some ⟨g, 0, none⟩) (l.length - k) gc, .int .i64 fr, .int .i64 b]) ∧
        w'.ownsRow w.heap.size 50 7 (.slice (some ⟨g, 0, none⟩) (l.length - k) gc) (l.length - k) (stepCells (l.drop k)) ∧ Below w.heap.size w w' := by
  obtain ⟨i0, hi, hz0, hz1, hz2⟩ := info_parts step_info
  have hne : l ≠ [] := by intro e; subst e; simp at hk
  obtain rfl := hs.here hne
  have k0 : (0 : Int) ≤ (k : Int) := by omega
  have k1 : (k : Int) < (l.length : Int) := by omega
  have k2 : (l.length : Int) ≤ (cap : Int) := by omega
  have k3 : (k : Int) ≤ (l.length : Int) := by omega
  have hck : ¬ cap = k := by omega
  obtain ⟨W1, hW1⟩ : ∃ W1, (w.alloc (.cells #[.int .i64 q, .int .i64 s, .slice (some ⟨b0, o, none⟩) l.length cap, .int .i64 fr, .int .i64 b] 31)).alloc (.cells #[.int .i64 0, .int .i64 0, .slice none 0 0, .int .i64 0, .int .i64 0] 31) = W1 := ⟨_, rfl⟩
  have hz1' : W1.heap.size = w.heap.size + 1 + 1 := by rw [← hW1]; simp
  have X1 : PathAt W1 w.heap.size q s fr b (.slice (some ⟨b0, o, none⟩) l.length cap) := by
    rw [← hW1]
    exact (PathAt.new w q s fr b _).keep ((Below.refl _ _).alloc (Nat.le_refl _) _) (PathAt.new w q s fr b _).lt
  have Z1 : PathAt W1 (w.heap.size + 1) 0 0 0 0 (.slice none 0 0) := by
    have := PathAt.new (w.alloc (.cells #[.int .i64 q, .int .i64 s, .slice (some ⟨b0, o, none⟩) l.length cap, .int .i64 fr, .int .i64 b] 31)) 0 0 0 0 (.slice none 0 0)
    rw [World.size_alloc, hW1] at this
    exact this
  have B1 : Below w.heap.size w W1 := by
    rw [← hW1]
    exact ((Below.refl _ _).alloc (Nat.le_refl _) _).alloc (by simp) _
  have hE : (W1.alloc (.cells #[] 50)).ownsRow W1.heap.size 50 7 (.slice (some ⟨W1.heap.size, 0, none⟩) 0 0) 0 [] := owns_empty (Nat.le_refl _)
  rw [hz1'] at hE
  have hs0 := (hs.below B1 hs.lt).alloc (.cells #[] 50)
  have hs1 : StepsAt (W1.alloc (.cells #[] 50)).drew (some ⟨b0, o, none⟩) b0 o l := hs0.below (Below.refl (W1.alloc (.cells #[] 50)).heap.size _).drew hs0.lt
  have hnew := steps_news (hs1.tail0 k)
  have hnl : (stepCells (l.drop k)).length = (l.length - k) * 7 := by rw [stepCells_length, List.length_drop]
  have KEEP : ∀ w4 : World, (W1.alloc (.cells #[] 50)).drew.grownBy w4 (Value.slice (some ⟨w.heap.size + 1 + 1, 0, none⟩) 0 0).ownBlock → PathAt w4 w.heap.size q s fr b (.slice (some ⟨b0, o, none⟩) l.length cap) ∧ PathAt w4 (w.heap.size + 1) 0 0 0 0 (.slice none 0 0) ∧ Below w.heap.size w w4 := fun w4 hg => by
    have al : Below W1.heap.size W1 (W1.alloc (.cells #[] 50)).drew := ((Below.refl _ _).alloc (Nat.le_refl _) _).drew
    refine ⟨(X1.keep al X1.lt).grown hg (fun e => ?_), (Z1.keep al Z1.lt).grown hg (fun e => ?_), (B1.trans (al.mono B1.size)).grown hg ?_ (fun j e => ?_)⟩
    · simp [Value.ownBlock] at e <;> omega
    · simp [Value.ownBlock] at e <;> omega
    · simp [World.drew]; omega
    · simp [Value.ownBlock] at e <;> omega
  obtain ⟨⟨x0, x1, x2, x3, x4⟩, _⟩ := X1.cells
  obtain ⟨⟨y0, y1, y2, y3, y4⟩, yf⟩ := Z1.cells
  go_enter Tryd.func20, Tryd.ntmps20
  go_wp2_with fail
  clear hW1
  go_region_held3 (fun w' => w'.cell? ⟨w.heap.size, 0, none⟩ = some (.int .i64 q) ∧ w'.cell? ⟨w.heap.size, 1, none⟩ = some (.int .i64 s) ∧ w'.cell? ⟨w.heap.size, 2, none⟩ = some (.slice (some ⟨b0, o, none⟩) l.length cap) ∧ w'.cell? ⟨w.heap.size, 3, none⟩ = some (.int .i64 fr) ∧ w'.cell? ⟨w.heap.size, 4, none⟩ = some (.int .i64 b))
    (first | (simp [go_sem, *]; done) | (simp [go_sem, World.cell?_alloc_lt, *]; done))
    ((refine step_append_lies _ (by rfl) _ _ _ (by rfl) (w.heap.size + 1 + 1) 50 i0 _ 7 56 Tryd.underlying29 hi hz0 hz1 hz2 rfl (by decide) (.slice (some ⟨w.heap.size + 1 + 1, 0, none⟩) 0 0) 0 [] (by rfl) hE.drew ⟨b0, o + k * 7, none⟩ (l.length - k) (cap - k) (stepCells (l.drop k)) (by rfl) hnl hnew (stepCells_one _) (by omega) (by unfold maxLen; omega) (by omega) (by simp; omega) (w.heap.size + 1 + 1 + 1) (by simp; omega) ?_; intro g gc w4 ho4 hg4 hat4 hlt4; obtain ⟨X4, Z4, B4⟩ := KEEP w4 hg4; have X4c := X4.cells; have Z4c := Z4.cells; have p0 := X4c.1.1; have p1 := X4c.1.2.1; have p2 := X4c.1.2.2.1; have p3 := X4c.1.2.2.2.1; have p4 := X4c.1.2.2.2.2; have r0 := Z4c.1.1; have r1 := Z4c.1.2.1; have r2 := Z4c.1.2.2.1; have r3 := Z4c.1.2.2.2.1; have r4 := Z4c.1.2.2.2.2; have rf := Z4c.2))
  clear X4 Z4 X4c Z4c p0 p1 p2 p3 p4 x0 x1 x2 x3 x4 y0 y1 y2 y3 y4 yf KEEP hnew hs0 hs1 hg4 hE X1 Z1
  simp only [Nat.zero_add, List.nil_append] at ho4
  go_wp2
  refine bodyPost_ret (v := .agg #[.int .i64 q, .int .i64 s, .slice (some ⟨g, 0, none⟩) (l.length - k) gc, .int .i64 fr, .int .i64 b]) (by simp [results, Tryd.results20, go_sem, *]) rfl ⟨g, gc, rfl, ?_, ?_⟩
  · have hh : ∀ j, (Value.slice (some ⟨g, 0, none⟩) (l.length - k) gc).ownBlock = some j → j ≠ w.heap.size + 1 := fun j e => by have := owns_base ho4 j e; omega
    iterate 5 (refine owns_set ?_ hh _ _)
    exact ⟨ho4.1, ho4.2.imp id fun ⟨g, cap, cur, h1, h2, h3⟩ => ⟨g, cap, cur, h1, by omega, h3⟩⟩
  · iterate 5 (refine Below.setCell ?_ (by show _ ≤ w.heap.size + 1; omega) _)
    exact B4
end Go.Proofs.YtlcblcoodabpeaaDoor

namespace Go.Proofs.YtlcblcoodabpeaaDoor
open Go.RowKit

theorem grown_from_below {w w' : World} (h : Below w.heap.size w w') (row : Option Nat) : w.grownBy w' row := ⟨h.os, h.tape, h.output, h.size, fun k hk _ => h.block k hk⟩
theorem grown_new {a b : World} {row : Option Nat} (h : a.grownBy b row) {p : Addr} (hp : a.heap.size ≤ p.block) (v : Value) : a.grownBy (b.setCell p v) row :=
  ⟨h.os, h.tape, h.output, by simpa [World.setCell] using h.size, fun k hk hr => (heap_setCell_other b p k v (by omega)).trans (h.block k hk hr)⟩
theorem grown_at_row {a b : World} {g : Nat} (h : a.grownBy b (some g)) {p : Addr} (hp : p.block = g) (v : Value) : a.grownBy (b.setCell p v) (some g) := by
  have := grown_set b p v
  rw [hp] at this
  exact grown_over2 h this

set_option maxRecDepth 20000 in
set_option maxHeartbeats 4000000 in
theorem afterS_any (q s fr b nw : Int) (g gc base : Nat) (m : List Stp) (w : World) (hl : 1 ≤ m.length ∧ m.length ≤ 1048576) (ho : w.ownsRow base 50 7 (.slice (some ⟨g, 0, none⟩) m.length gc) m.length (stepCells m)) (hn : 0 ≤ nw ∧ nw ≤ 10000) :
    Calls Tryd.prog 25 #[.agg #[.int .i64 q, .int .i64 s, .slice (some ⟨g, 0, none⟩) m.length gc, .int .i64 fr, .int .i64 b], .int .i64 nw] w
      fun e w' => e = .returned (.agg #[.int .i64 q, .int .i64 s, .slice (some ⟨g, 0, none⟩) m.length gc, .int .i64 (afterFr fr m nw), .int .i64 b]) ∧ w'.ownsRow base 50 7 (.slice (some ⟨g, 0, none⟩) m.length gc) m.length (stepCells (afterL m nw)) ∧ w.grownBy w' (some g) := by
  obtain ⟨n0, n1⟩ := hn
  have hgl := owns_lt ho g rfl
  obtain ⟨W1, hW1⟩ : ∃ W1, (w.alloc (.cells #[.int .i64 q, .int .i64 s, .slice (some ⟨g, 0, none⟩) m.length gc, .int .i64 fr, .int .i64 b] 31)).alloc (.cells #[.int .i64 0, .int .i64 0, .slice none 0 0, .int .i64 0, .int .i64 0] 31) = W1 := ⟨_, rfl⟩
  have X1 : PathAt W1 w.heap.size q s fr b (.slice (some ⟨g, 0, none⟩) m.length gc) := by
    rw [← hW1]
    exact (PathAt.new w q s fr b _).keep ((Below.refl _ _).alloc (Nat.le_refl _) _) (PathAt.new w q s fr b _).lt
  have Z1 : PathAt W1 (w.heap.size + 1) 0 0 0 0 (.slice none 0 0) := by
    have := PathAt.new (w.alloc (.cells #[.int .i64 q, .int .i64 s, .slice (some ⟨g, 0, none⟩) m.length gc, .int .i64 fr, .int .i64 b] 31)) 0 0 0 0 (.slice none 0 0)
    rw [World.size_alloc, hW1] at this
    exact this
  have B1 : Below w.heap.size w W1 := by
    rw [← hW1]
    exact ((Below.refl _ _).alloc (Nat.le_refl _) _).alloc (by simp) _
  have ho1 := owns_below ho B1
  have hg1 : g < W1.heap.size := Nat.lt_of_lt_of_le hgl B1.size
  obtain ⟨⟨x0, x1, x2, x3, x4⟩, xf⟩ := X1.cells
  obtain ⟨⟨y0, y1, y2, y3, y4⟩, yf⟩ := Z1.cells
  by_cases h1 : 1 < m.length
  · obtain ⟨u1, hu⟩ : ∃ u, m[1]? = some u := ⟨_, List.getElem?_eq_getElem h1⟩
    have hud : m.getD 1 .zero = u1 := by rw [List.getD_eq_getElem?_getD, hu]; rfl
    obtain ⟨z, hz⟩ : ∃ z, mxB u1.fr (nw + 1) = z := ⟨_, rfl⟩
    have c11 : W1.cell? ⟨g, 11, none⟩ = some (.int .i64 u1.fr) := (ho1.cellAt 11 (by omega)).trans (stepCells_at _ 1 u1 4 hu (by decide))
    have HF : Hid (afterFr fr m nw = fr ∧ afterL m nw = m.set 1 { u1 with fr := z }) := by
      show _ ∧ _
      unfold afterFr afterL
      rw [if_pos h1, if_pos h1, hud, hz]
      exact ⟨rfl, rfl⟩
    have MX : ∀ (W : World), Calls Tryd.prog 22 #[.int .i64 u1.fr, .int .i64 (nw + 1)] W fun e w' => e = .returned (.int .i64 z) ∧ w' = W := fun W => by rw [← hz]; exact max_any _ _ _
    have m1 : (1 : Int) < (m.length : Int) := by omega
    have m0 : (0 : Int) < (m.length : Int) := by omega
    go_enter Tryd.func25, Tryd.ntmps25
    go_wp2
    clear hW1
    have qn := Cls.any W1
    have q1 := Cls.cell hg1
    have q2 := Cls.cell X1.lt
    refine wp_region_last (by kernel_rfl) (by simp) (by kernel_rfl) (by kernel_rfl) ?_
    simp only [initL, endL]
    repeat (go_big_quiet_step ((go_at_call 22; exact Calls.cls_of_same (MX _))))
    refine wpQuiet_nil ?_
    rintro _ ⟨u, rfl⟩
    have hou := owns_below ho1 u.same
    have XU := X1.keep u.same X1.lt
    have ZU := Z1.keep u.same Z1.lt
    have BU := B1.trans (u.same.mono B1.size)
    clear q1 q2 qn MX x0 x1 x2 x3 x4 xf y0 y1 y2 y3 y4 yf c11
    generalize u.it = U at *
    have t0 := (hou.cellAt 11 (by omega)).trans (stepCells_at _ 1 u1 4 hu (by decide))
    have tf := hou.frozenAt
    have HR := row_put hou (i := 1) (j := 4) (t' := { u1 with fr := z }) (u := .int .i64 z) hu (by decide) rfl
    obtain ⟨⟨x0, x1, x2, x3, x4⟩, xf⟩ := XU.cells
    obtain ⟨⟨y0, y1, y2, y3, y4⟩, yf⟩ := ZU.cells
    have HO : Hid ((U.setCell ⟨g, 11, none⟩ (.int .i64 z)).ownsRow base 50 7 (.slice (some ⟨g, 0, none⟩) m.length gc) m.length (stepCells (m.set 1 { u1 with fr := z }))) := HR
    have gn0 : g ≠ w.heap.size := by omega
    have gn1 : g ≠ w.heap.size + 1 := by omega
    clear HR hou ho1 ho hz
    go_wp2
    refine bodyPost_ret (v := .agg #[.int .i64 q, .int .i64 s, .slice (some ⟨g, 0, none⟩) m.length gc, .int .i64 fr, .int .i64 b]) (by simp [results, Tryd.results25, go_sem, *]) rfl ⟨by rw [HF.out.1], ?_, ?_⟩
    · rw [HF.out.2]
      have hh : ∀ j, (Value.slice (some ⟨g, 0, none⟩) m.length gc).ownBlock = some j → j ≠ w.heap.size + 1 := fun j e => by simp [Value.ownBlock] at e; omega
      iterate 5 (refine owns_set ?_ hh _ _)
      exact HO.out
    · iterate 5 (refine grown_new ?_ (by show _ ≤ w.heap.size + 1; omega) _)
      exact grown_at_row (grown_from_below BU _) rfl _
  · have HF : Hid (afterFr fr m nw = mxB fr (nw + 1) ∧ afterL m nw = m) := by
      show _ ∧ _
      unfold afterFr afterL
      rw [if_neg h1, if_neg h1]
      exact ⟨rfl, rfl⟩
    obtain ⟨z, hz⟩ : ∃ z, mxB fr (nw + 1) = z := ⟨_, rfl⟩
    have MX : ∀ (W : World), Calls Tryd.prog 22 #[.int .i64 fr, .int .i64 (nw + 1)] W fun e w' => e = .returned (.int .i64 z) ∧ w' = W := fun W => by rw [← hz]; exact max_any _ _ _
    have m1 : ¬ (1 : Int) < (m.length : Int) := by omega
    go_enter Tryd.func25, Tryd.ntmps25
    go_wp2_with fail
    refine (MX _).mono ?_
    rintro e w2 ⟨rfl, rfl⟩
    have BU : Hid (Below w.heap.size w w2) := B1
    have HO : Hid (w2.ownsRow base 50 7 (.slice (some ⟨g, 0, none⟩) m.length gc) m.length (stepCells m)) := ho1
    clear hW1 MX B1 ho1 ho
    go_wp2
    refine bodyPost_ret (v := .agg #[.int .i64 q, .int .i64 s, .slice (some ⟨g, 0, none⟩) m.length gc, .int .i64 z, .int .i64 b]) (by simp [results, Tryd.results25, go_sem, *]) rfl ⟨by rw [HF.out.1, hz], ?_, ?_⟩
    · rw [HF.out.2]
      have hh : ∀ j, (Value.slice (some ⟨g, 0, none⟩) m.length gc).ownBlock = some j → j ≠ w.heap.size + 1 := fun j e => by simp [Value.ownBlock] at e; omega
      have hx : ∀ j, (Value.slice (some ⟨g, 0, none⟩) m.length gc).ownBlock = some j → j ≠ w.heap.size := fun j e => by simp [Value.ownBlock] at e; omega
      iterate 5 (refine owns_set ?_ hh _ _)
      exact owns_set HO.out hx _ _
    · iterate 6 (refine grown_new ?_ (by first | (show _ ≤ w.heap.size + 1; omega) | (show _ ≤ w.heap.size; omega)) _)
      exact grown_from_below BU.out _

set_option maxRecDepth 20000 in
set_option maxHeartbeats 4000000 in
theorem canS_any (q s fr b : Int) (g gc base : Nat) (m : List Stp) (w : World) (hW : Wide q s fr b m) (ho : w.ownsRow base 50 7 (.slice (some ⟨g, 0, none⟩) m.length gc) m.length (stepCells m)) (_hbase : base ≤ w.heap.size) :
    Calls Tryd.prog 24 #[.agg #[.int .i64 q, .int .i64 s, .slice (some ⟨g, 0, none⟩) m.length gc, .int .i64 fr, .int .i64 b]] w
      fun e w' => Below w.heap.size w w' ∧ ∃ v, e = .returned (.tuple #[.agg #[.int .i64 (canA q s fr b m).q, .int .i64 (canA q s fr b m).s, v, .int .i64 (canA q s fr b m).fr, .int .i64 (canA q s fr b m).b], .bool (canA q s fr b m).ok]) ∧ w'.ownsRow base 50 7 v (canA q s fr b m).l.length (stepCells (canA q s fr b m).l) := by
  have hgl := owns_lt ho g rfl
  have hst := steps_owned ho
  have Q0 := PathAt.new w q s fr b (.slice (some ⟨g, 0, none⟩) m.length gc)
  have P0 := PathAt.new (w.alloc (.cells #[.int .i64 q, .int .i64 s, .slice (some ⟨g, 0, none⟩) m.length gc, .int .i64 fr, .int .i64 b] 31)) 0 0 0 0 (.slice none 0 0)
  rw [World.size_alloc] at P0
  have Q1 := Q0.keep ((Below.refl _ _).alloc (Nat.le_refl _) (.cells #[.int .i64 0, .int .i64 0, .slice none 0 0, .int .i64 0, .int .i64 0] 31)) Q0.lt
  have B0 : Below w.heap.size w ((w.alloc (.cells #[.int .i64 q, .int .i64 s, .slice (some ⟨g, 0, none⟩) m.length gc, .int .i64 fr, .int .i64 b] 31)).alloc (.cells #[.int .i64 0, .int .i64 0, .slice none 0 0, .int .i64 0, .int .i64 0] 31)) := ((Below.refl _ _).alloc (Nat.le_refl _) _).alloc (by simp) _
  go_enter Tryd.func24, Tryd.ntmps24
  go_wp2_with fail
  refine (spansS_wide _ _ _ _ _ g 0 _ _ _ ((hst.alloc _).alloc _) hW).mono ?_
  rintro e w1 ⟨v1, rfl, _, hb1⟩
  have P1 := P0.keep hb1 P0.lt
  have Q2 := Q1.keep hb1 Q1.lt
  have B1 := B0.trans (hb1.mono B0.size)
  have ho1 := owns_below ho B1
  obtain ⟨⟨x0, x1, x2, x3, x4⟩, xf⟩ := Q2.cells
  obtain ⟨⟨f0, f1, f2, f3, f4⟩, ff⟩ := P1.cells
  clear hb1 P0 Q0 Q1 B0 hst
  cases hsp : spanB q s fr b m with
  | false =>
    have HA : Hid (canA q s fr b m = .no) := by show _ = _; unfold canA; rw [hsp]; rfl
    go_wp2
    refine bodyPost_ret (v := .tuple #[.agg #[.int .i64 0, .int .i64 0, .slice none 0 0, .int .i64 0, .int .i64 0], .bool false]) (by simp [results, Tryd.results24, go_sem, *]) rfl ⟨?_, _, by rw [HA.out]; rfl, by rw [HA.out]; exact World.ownsRow_nil _ _ _ _⟩
    iterate 5 (refine Below.setCell ?_ (by show _ ≤ w.heap.size + 1; omega) _)
    exact B1
  | true =>
    have HA : Hid (canA q s fr b m = { q := q, s := s, fr := fr, b := b, l := m, ok := true }) := by show _ = _; unfold canA; rw [hsp]; rfl
    go_wp2
    refine bodyPost_ret (v := .tuple #[.agg #[.int .i64 q, .int .i64 s, .slice (some ⟨g, 0, none⟩) m.length gc, .int .i64 fr, .int .i64 b], .bool true]) (by simp [results, Tryd.results24, go_sem, *]) rfl ⟨?_, _, by rw [HA.out], ?_⟩
    · iterate 5 (refine Below.setCell ?_ (by show _ ≤ w.heap.size + 1; omega) _)
      exact B1
    · rw [HA.out]
      have hh : ∀ j, (Value.slice (some ⟨g, 0, none⟩) m.length gc).ownBlock = some j → j ≠ w.heap.size + 1 := fun j e => by simp [Value.ownBlock] at e; omega
      iterate 5 (refine owns_set ?_ hh _ _)
      exact ho1
end Go.Proofs.YtlcblcoodabpeaaDoor
