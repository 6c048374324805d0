/- Joined texts: SentLaid, Copy, Copy2, Eq, TurnLaw. -/
import Derived.ProofKit
import Derived.LaidMore
import Derived.OpenShut
import Derived.Stop.Joined
import Derived.Stop.LaidErr
import Derived.WalkSmall
import Derived.WalkKit
import Derived.WalkSpells
import Derived.Deep.RegionHeld3
import Derived.Deep.RegionWith
import Derived.Test.YtfnopcgmlfedfaaGreatDoorRows
import Derived.Test.YtfnopcgmlfedfaaGreatDoorSomeLeft
import Derived.Test.YtfnopcgmlfedfaaGreatDoorJ01
import Derived.Test.YtfnopcgmlfedfaaGreatDoorWalk
import Derived.Test.YtfnopcgmlfedfaaGreatDoorStepInfo
import Derived.Test.YtfnopcgmlfedfaaGreatDoorData
import Derived.Test.YtfnopcgmlfedfaaGreatDoorPathKit
namespace Go.Proofs.YtfnopcgmlfedfaaGreatDoor
open Go.ChangeShapes Go.WideShapes Go.ChangeAt Go.RowKit

theorem own_none : ownKnob Tryz.prog.godebug = none := by kernel_rfl
theorem laid_out : laidOutB Tryz.prog = true := by kernel_rfl
/-- The program's FlySpans keeps its contract. -/
theorem spans_said : SpansSaid := spans_any walk_any follow_any

/-- The variable's name, as the rows list it. -/
abbrev varName : String := "loop.example/laplink/impl.errNothingLeft"
abbrev laidL : List (String × DataW Unit) := [(varName, Rows.laid_loop_example_laplink_impl_errNothingLeft)]
theorem gvar : Tryz.prog.globalNamed varName = some 0 := by kernel_rfl
theorem gvarType : (Tryz.prog.globals[0]?).map (·.type) = some 134 := by kernel_rfl
theorem cellsE : Tryz.prog.cellsOf 199 = 1 := by kernel_rfl
theorem cellsS : Tryz.prog.cellsOf 9 = 1 := by kernel_rfl
theorem starE : "*" ++ "errors.errorString" = "*errors.errorString" := by decide
theorem rowE (u : TypeId) (h : Tryz.prog.typeName? 3 u = some "*errors.errorString") : u = 174 :=
  typeName_ptr_named (nm := "errors.errorString") (by rw [starE]; kernel_rfl) (by kernel_rfl) (by decide) u (by rw [starE]; exact h)

/-- The variable holds a pointer to an errors.errorString. -/
theorem of_laid {W : World} (h : laidMetH Tryz.prog laidL W) : ∃ p : Addr, W.var? Tryz.prog varName = some #[.iface 174 (.pointer (some p))] := by
  rw [MakeChecks.laidMetH_plain _ _ _ (by kernel_rfl)] at h
  obtain ⟨a, s, hv, _⟩ := laid_sentinel h gvar gvarType Tryz.underlying134 rowE Tryz.underlying174 Tryz.underlying199 rfl rfl Tryz.underlying9 cellsE cellsS
  exact ⟨a, hv⟩
theorem sent_of {W : World} {p : Addr} (h : W.var? Tryz.prog varName = some #[.iface 174 (.pointer (some p))]) : Sent W p := by
  have := World.var?_cell gvar h 0
  unfold Sent
  simpa using this
/-- The door's own heap meets the condition. -/
theorem door_met (os : Os) (args : Array Value) : laidMetH Tryz.prog laidL ((World.doorLaid Tryz.prog 400 os).forCall (fun _ _ => 0) ⟨#[], args, []⟩).memory :=
  laidMetH_of_parts3 (fuel := 8) (laidMet_of_run' 8 (by kernel_rfl) (by kernel_rfl)) (by kernel_rfl) (by kernel_rfl)
end Go.Proofs.YtfnopcgmlfedfaaGreatDoor

namespace Go.Proofs.YtfnopcgmlfedfaaGreatDoor
open Go.RowKit

theorem toStep_any (x y lo hi fr b : Int) (ho : Bool) (w : World) :
    Calls Tryz.prog 28 #[.agg #[.int .i64 x, .int .i64 y, .int .i64 lo, .int .i64 hi, .int .i64 fr, .int .i64 b, .bool ho]] w
      fun e w' => e = .returned (.agg #[.int .i64 x, .int .i64 y, .int .i64 lo, .int .i64 hi, .int .i64 fr, .int .i64 b, .bool ho]) ∧ Below w.heap.size w w' := by
  go_enter Tryz.func28, Tryz.ntmps28
  go_wp2
  refine bodyPost_ret (v := .agg #[.int .i64 x, .int .i64 y, .int .i64 lo, .int .i64 hi, .int .i64 fr, .int .i64 b, .bool ho]) (by simp [results, Tryz.results28, go_sem]) rfl ⟨rfl, ?_⟩
  exact (((Below.refl _ _).alloc (Nat.le_refl _) _).alloc (by simp) _).alloc (by simp; omega) _

theorem toKind_any (q s : Int) (w : World) :
    Calls Tryz.prog 14 #[.agg #[.int .i64 q, .int .i64 s]] w fun e w' => e = .returned (.agg #[.int .i64 q, .int .i64 s]) ∧ Below w.heap.size w w' := by
  go_enter Tryz.func14, Tryz.ntmps14
  go_wp2
  refine bodyPost_ret (v := .agg #[.int .i64 q, .int .i64 s]) (by simp [results, Tryz.results14, go_sem]) rfl ⟨rfl, ?_⟩
  exact (((Below.refl _ _).alloc (Nat.le_refl _) _).alloc (by simp) _).alloc (by simp; omega) _


set_option maxHeartbeats 1000000 in
theorem toSteps_more (a : Option Addr) (b o cap : Nat) (l : List Stp) (w : World) (hl : l.length ≤ 1048576) (hs : StepsAt w a b o l) :
    Calls Tryz.prog 15 #[.slice a l.length cap] w
      fun e w' => ∃ g, e = .returned (.slice (some ⟨g, 0, none⟩) l.length l.length) ∧ w.heap.size ≤ g ∧ g < w'.heap.size ∧ StepsAt w' (some ⟨g, 0, none⟩) g 0 l ∧ Below w.heap.size w w' ∧ ∀ i, i < l.length → w'.there g (i * 7) 7 := by
  obtain ⟨i0, hi, hz0, hz1, hz2⟩ := info_parts step_info
  go_enter Tryz.func15, Tryz.ntmps15
  go_wp2_with (first | (at_make; refine wpList_make_full _ rfl _ _ 30 rfl w.heap.size 74 i0 _ 7 Tryz.underlying30 hi hz0 hz1 .i64 .i64 _ _ l.length rfl rfl rfl rfl (by rw [hz2]; omega) (by unfold maxLen; omega) (Nat.le_refl _) ?_; intro w1 hown1 hgrow1))
  have hz : (madeCells (Value.agg #[.int .i64 0, .int .i64 0, .int .i64 0, .int .i64 0, .int .i64 0, .int .i64 0, .bool false]).cells (l.length * 7)).toList.length = l.length * 7 := hown1.1
  obtain ⟨hlen1, hrow1⟩ := hown1
  have hb1 : Below w.heap.size w w1 := (Below.refl _ _).grown hgrow1 (Nat.le_refl _) (fun k e => by cases e)
  obtain ⟨cur, hcur, hsz⟩ : ∃ cur, w1.heap[w.heap.size]? = some (.cells cur 74 (0, 0)) ∧ cur.size = l.length * 7 := by
    rcases hrow1 with ⟨h, _⟩ | ⟨g, cap, cur, h, _, hh, _, _, hs, _⟩
    · cases h
    · simp at h
      obtain ⟨rfl, rfl⟩ := h
      exact ⟨cur, hh, hs⟩
  clear hlen1 hrow1 hz hgrow1
  have hth : ∀ i, i < l.length → w1.there w.heap.size (i * 7) 7 := fun i hi => there_of_block hcur _ _ (by omega)
  have hgr1 : w.heap.size < w1.heap.size := lt_of_block hcur
  go_loopw [4] (fun v wr => ∃ k : Nat, k ≤ l.length ∧ v = .int .i64 k ∧ Below w.heap.size w wr ∧ w.heap.size < wr.heap.size ∧ (∀ i, i < l.length → wr.there w.heap.size (i * 7) 7) ∧ (∀ (i : Nat) (s : Stp), i < k → l[i]? = some s → wr.rangeAt w.heap.size (i * 7) s.cells))
    (fun v _ => l.length - (intOf v).toNat)
  case atStart => exact ⟨0, Nat.zero_le _, rfl, hb1, hgr1, hth, fun i s h => absurd h (by omega)⟩
  case round =>
    obtain ⟨k, hk, rfl, hb, hgr, hthr, hdone⟩ := hrel
    by_cases hlt : k < l.length
    · obtain ⟨s, hsk⟩ : ∃ s, l[k]? = some s := ⟨l[k], List.getElem?_eq_getElem hlt⟩
      have hne : l ≠ [] := by intro e; subst e; simp at hlt
      obtain rfl := hs.here hne
      have hbw := hs.lt hne
      obtain ⟨c0, c1, c2, c3, c4, c5, c6⟩ := (hs.below hb (fun _ => hbw)).seven hsk
      go_wp2_with fail
      refine (toStep_any _ _ _ _ _ _ _ _).mono ?_
      rintro e w2 ⟨rfl, hb2⟩
      have hth2 : w2.there w.heap.size (k * 7) 7 := there_below (hthr k hlt) hb2 hgr
      have HT : Hid (w2.there w.heap.size (k * 7) 7) := hth2
      go_wp2_with (refine store_step rfl (.tmp 21) (.tmp 20) rfl w.heap.size (k * 7) s rfl rfl hth2 ?_; clear hth2)
      go_roundw
      case rel =>
        refine ⟨k + 1, by omega, by go_num, below_setCells (Nat.le_refl _) _ _ _ _ (hb.trans (hb2.mono (by have := hb.size; omega))), ?_, ?_, ?_⟩
        · rw [size_setCells]; have := hb2.size; omega
        · intro i hi
          exact World.there_setCells (there_below (hthr i hi) hb2 hgr) _ _ _
        · intro i s' hi hs'
          by_cases hik : i = k
          · subst hik
            obtain rfl : s = s' := by rw [hsk] at hs'; simpa using hs'
            exact World.rangeAt_setCells_same _ _ _ _ HT.out
          · exact World.rangeAt_setCells_apart (range_below (hdone i s' (by omega) hs') hb2 hgr) _ _ _ (by right; left; simp; omega)
      case measure => simp [intOf]; omega
    · have hkl : k = l.length := by omega
      subst hkl
      go_wp2
      go_ret
      exact ⟨w.heap.size, rfl, Nat.le_refl _, hgr, ⟨fun _ => rfl, fun _ => hgr, fun i s hi => by simpa using hdone i s (List.getElem?_eq_some_iff.1 hi).1 hi⟩, hb, hthr⟩

theorem toSteps_any (a : Option Addr) (b o cap : Nat) (l : List Stp) (w : World) (hl : l.length ≤ 1048576) (hs : StepsAt w a b o l) :
    Calls Tryz.prog 15 #[.slice a l.length cap] w
      fun e w' => ∃ g, e = .returned (.slice (some ⟨g, 0, none⟩) l.length l.length) ∧ w.heap.size ≤ g ∧ g < w'.heap.size ∧ StepsAt w' (some ⟨g, 0, none⟩) g 0 l ∧ Below w.heap.size w w' :=
  (toSteps_more a b o cap l w hl hs).mono fun _ _ ⟨g, h1, h2, h3, h4, h5, _⟩ => ⟨g, h1, h2, h3, h4, h5⟩
end Go.Proofs.YtfnopcgmlfedfaaGreatDoor

namespace Go.Proofs.YtfnopcgmlfedfaaGreatDoor
open Go.RowKit


/-- A store anywhere leaves places that can be written. -/
theorem there_set {w : World} {b o n : Nat} (h : w.there b o n) (pb po : Nat) (v : Value) : (w.setCell ⟨pb, po, none⟩ v).there b o n := World.there_setCells h pb po [v]

theorem szSteps_any (a : Option Addr) (n cap : Nat) (left : Int) (w : World) (hn : n ≤ maxLen) (h0 : -1 ≤ left) (h1 : left ≤ 1048576) :
    Calls Tryz.prog 9 #[.slice a n cap, .int .i64 left] w fun e w' => e = .returned (.int .i64 (leftB left n)) ∧ w' = w := by
  unfold maxLen at hn
  by_cases h : left - n < 0
  · go_enter Tryz.func9, Tryz.ntmps9
    go_wp2
    go_ret
    exact ⟨by simp [leftB, h], rfl⟩
  · go_enter Tryz.func9, Tryz.ntmps9
    go_wp2
    go_ret
    exact ⟨by rw [leftB, if_neg (by omega)]; rfl, rfl⟩


theorem szPath_any (q s fr b : Int) (a : Option Addr) (n cap : Nat) (left : Int) (w : World) (hn : n ≤ maxLen) (h0 : -1 ≤ left) (h1 : left ≤ 1048576) :
    Calls Tryz.prog 4 #[.agg #[.int .i64 q, .int .i64 s, .slice a n cap, .int .i64 fr, .int .i64 b], .int .i64 left] w fun e w' => e = .returned (.int .i64 (leftB left n)) ∧ Below w.heap.size w w' := by
  have hb := (Below.refl w.heap.size w).alloc (Nat.le_refl _) (.cells #[.int .i64 q, .int .i64 s, .slice a n cap, .int .i64 fr, .int .i64 b] 26)
  obtain ⟨k0, _⟩ := leftB_left left n h0 h1
  by_cases h : leftB left n < 0
  · have e1 : leftB left n = -1 := by omega
    go_enter Tryz.func4, Tryz.ntmps4
    go_wp2_with (go_at_call 9; refine (szSteps_any _ _ _ _ _ hn h0 h1).mono ?_; rintro e w' ⟨rfl, rfl⟩)
    go_ret
    exact ⟨by rw [e1]; rfl, hb⟩
  · go_enter Tryz.func4, Tryz.ntmps4
    go_wp2_with (go_at_call 9; refine (szSteps_any _ _ _ _ _ hn h0 h1).mono ?_; rintro e w' ⟨rfl, rfl⟩)
    go_ret
    exact ⟨rfl, hb⟩

set_option maxHeartbeats 1000000 in
theorem toPath_more (q s fr b : Int) (a : Option Addr) (b0 o cap : Nat) (l : List Stp) (w : World) (hl : l.length ≤ 1048576) (hs : StepsAt w a b0 o l) :
    Calls Tryz.prog 6 #[.agg #[.int .i64 q, .int .i64 s, .slice a l.length cap, .int .i64 fr, .int .i64 b]] w
      fun e w' => ∃ g, e = .returned (.agg #[.int .i64 q, .int .i64 s, .slice (some ⟨g, 0, none⟩) l.length l.length, .int .i64 fr, .int .i64 b]) ∧ w.heap.size ≤ g ∧ g < w'.heap.size ∧ StepsAt w' (some ⟨g, 0, none⟩) g 0 l ∧ Below w.heap.size w w' ∧ ∀ i, i < l.length → w'.there g (i * 7) 7 := by
  go_enter Tryz.func6, Tryz.ntmps6
  go_wp2_with fail
  refine (toKind_any _ _ _).mono ?_
  rintro e w1 ⟨rfl, hb1⟩
  obtain ⟨hc1, hf1⟩ := old_cells hb1
  have hz1 := hb1.size
  simp at hz1
  have hb01 : Below w.heap.size w w1 := ((((Below.refl w.heap.size w).alloc (Nat.le_refl _) _).alloc (by simp) _).alloc (by simp; omega) _).trans (hb1.mono (by simp; omega))
  have hs1 := hs.below hb01 (fun h => hs.lt h)
  go_wp2_with fail
  refine (toSteps_more _ b0 o _ _ _ hl ?_).mono ?_
  · exact hs.below ((hb01.setCell (by simp; omega) _).setCell (by simp; omega) _) (fun h => hs.lt h)
  rintro e w2 ⟨g, rfl, hg1, hg2, hs2, hb2, hth⟩
  have HTH : Hid (∀ i, i < l.length → w2.there g (i * 7) 7) := hth
  clear hth
  obtain ⟨hc2, hf2⟩ := old_cells hb2
  have hz2 := hb2.size
  simp [World.setCell] at hz2 hg1
  have hb02 : Below w.heap.size w w2 := ((hb01.setCell (by simp; omega) _).setCell (by simp; omega) _).trans (hb2.mono (by simp [World.setCell]; omega))
  have hC1 : ∀ b o, b < w.heap.size + 3 → w1.cell? ⟨b, o, none⟩ = _ := fun b o h => hc1 b o (by simp; omega)
  have hF1 : ∀ b o, b < w.heap.size + 3 → w1.frozen? ⟨b, o, none⟩ = _ := fun b o h => hf1 b o (by simp; omega)
  have hC2 : ∀ b o, b < w.heap.size + 3 → w2.cell? ⟨b, o, none⟩ = _ := fun b o h => hc2 b o (by simp [World.setCell]; omega)
  have hF2 : ∀ b o, b < w.heap.size + 3 → w2.frozen? ⟨b, o, none⟩ = _ := fun b o h => hf2 b o (by simp [World.setCell]; omega)
  clear hc1 hf1 hc2 hf2
  have a3 : w2.cell? ⟨w.heap.size, 3, none⟩ = some (.int .i64 fr) := by rw [hC2 _ _ (by omega)]; simp [go_sem, hC1]
  have a4 : w2.cell? ⟨w.heap.size, 4, none⟩ = some (.int .i64 b) := by rw [hC2 _ _ (by omega)]; simp [go_sem, hC1]
  have o0 : w2.cell? ⟨w.heap.size + 1 + 1, 0, none⟩ = some (.int .i64 q) := by rw [hC2 _ _ (by omega)]; simp [go_sem, hC1]
  have o1 : w2.cell? ⟨w.heap.size + 1 + 1, 1, none⟩ = some (.int .i64 s) := by rw [hC2 _ _ (by omega)]; simp [go_sem, hC1]
  have o2 : w2.cell? ⟨w.heap.size + 1 + 1, 2, none⟩ = some (.slice none 0 0) := by rw [hC2 _ _ (by omega)]; simp [go_sem, hC1]
  have o3 : w2.cell? ⟨w.heap.size + 1 + 1, 3, none⟩ = some (.int .i64 0) := by rw [hC2 _ _ (by omega)]; simp [go_sem, hC1]
  have o4 : w2.cell? ⟨w.heap.size + 1 + 1, 4, none⟩ = some (.int .i64 0) := by rw [hC2 _ _ (by omega)]; simp [go_sem, hC1]
  have fo : ∀ j, w2.frozen? ⟨w.heap.size + 1 + 1, j, none⟩ = false := by intro j; rw [hF2 _ _ (by omega)]; simp [go_sem, hF1]
  have r0 : w2.cell? ⟨w.heap.size + 1, 0, none⟩ = some (.int .i64 0) := by rw [hC2 _ _ (by omega)]; simp [go_sem, hC1]
  have r1 : w2.cell? ⟨w.heap.size + 1, 1, none⟩ = some (.int .i64 0) := by rw [hC2 _ _ (by omega)]; simp [go_sem, hC1]
  have r2 : w2.cell? ⟨w.heap.size + 1, 2, none⟩ = some (.slice none 0 0) := by rw [hC2 _ _ (by omega)]; simp [go_sem, hC1]
  have r3 : w2.cell? ⟨w.heap.size + 1, 3, none⟩ = some (.int .i64 0) := by rw [hC2 _ _ (by omega)]; simp [go_sem, hC1]
  have r4 : w2.cell? ⟨w.heap.size + 1, 4, none⟩ = some (.int .i64 0) := by rw [hC2 _ _ (by omega)]; simp [go_sem, hC1]
  have fr1 : ∀ j, w2.frozen? ⟨w.heap.size + 1, j, none⟩ = false := by intro j; rw [hF2 _ _ (by omega)]; simp [go_sem, hF1]
  clear hC1 hC2 hF1 hF2 hs1 hb01 hb1 hs
  go_wp2
  refine bodyPost_ret (v := .agg #[.int .i64 q, .int .i64 s, .slice (some ⟨g, 0, none⟩) l.length l.length, .int .i64 fr, .int .i64 b]) (by simp [results, Tryz.results6, go_sem, *]) rfl ⟨g, rfl, by omega, ?_, ?_, ?_, ?_⟩
  · simpa [World.setCell] using hg2
  · iterate 8 (refine StepsAt.set ?_ (by simp; omega) _)
    exact hs2
  · iterate 8 (refine Below.setCell ?_ (by simp <;> omega) _)
    exact hb02
  · intro i hi
    iterate 8 (refine there_set ?_ _ _ _)
    exact HTH.out i hi

theorem toPath_any (q s fr b : Int) (a : Option Addr) (b0 o cap : Nat) (l : List Stp) (w : World) (hl : l.length ≤ 1048576) (hs : StepsAt w a b0 o l) :
    Calls Tryz.prog 6 #[.agg #[.int .i64 q, .int .i64 s, .slice a l.length cap, .int .i64 fr, .int .i64 b]] w
      fun e w' => ∃ g, e = .returned (.agg #[.int .i64 q, .int .i64 s, .slice (some ⟨g, 0, none⟩) l.length l.length, .int .i64 fr, .int .i64 b]) ∧ w.heap.size ≤ g ∧ g < w'.heap.size ∧ StepsAt w' (some ⟨g, 0, none⟩) g 0 l ∧ Below w.heap.size w w' :=
  (toPath_more q s fr b a b0 o cap l w hl hs).mono fun _ _ ⟨g, h1, h2, h3, h4, h5, _⟩ => ⟨g, h1, h2, h3, h4, h5⟩
end Go.Proofs.YtfnopcgmlfedfaaGreatDoor

namespace Go.Proofs.YtfnopcgmlfedfaaGreatDoor
open Go.RowKit

theorem eqKind_same (q s : Int) (w : World) :
    Calls Tryz.prog 21 #[.agg #[.int .i64 q, .int .i64 s], .agg #[.int .i64 q, .int .i64 s]] w fun e w' => e = .returned (.bool true) ∧ Below w.heap.size w w' := by
  go_enter Tryz.func21, Tryz.ntmps21
  go_wp2
  go_ret
  exact ⟨rfl, ((Below.refl _ _).alloc (Nat.le_refl _) _).alloc (by simp) _⟩

theorem eqStep_same (x y lo hi fr b : Int) (ho : Bool) (w : World) :
    Calls Tryz.prog 35 #[.agg #[.int .i64 x, .int .i64 y, .int .i64 lo, .int .i64 hi, .int .i64 fr, .int .i64 b, .bool ho], .agg #[.int .i64 x, .int .i64 y, .int .i64 lo, .int .i64 hi, .int .i64 fr, .int .i64 b, .bool ho]] w
      fun e w' => e = .returned (.bool true) ∧ Below w.heap.size w w' := by
  go_enter Tryz.func35, Tryz.ntmps35
  go_wp2
  go_ret
  exact ⟨rfl, ((Below.refl _ _).alloc (Nat.le_refl _) _).alloc (by simp) _⟩

set_option maxHeartbeats 1000000 in
theorem eqSteps_same (a a' : Option Addr) (b o cap b' o' cap' : Nat) (l : List Stp) (w : World) (hl : l.length ≤ 1048576) (hs : StepsAt w a b o l) (hs' : StepsAt w a' b' o' l) :
    Calls Tryz.prog 22 #[.slice a l.length cap, .slice a' l.length cap'] w fun e w' => e = .returned (.bool true) ∧ Below w.heap.size w w' := by
  go_enter Tryz.func22, Tryz.ntmps22
  go_wp2
  go_loopw [5] (fun v wr => ∃ k : Nat, k ≤ l.length ∧ v = .int .i64 k ∧ Below w.heap.size w wr) (fun v _ => l.length - (intOf v).toNat)
  case atStart => exact ⟨0, Nat.zero_le _, rfl, Below.refl _ _⟩
  case round =>
    obtain ⟨k, hk, rfl, hb⟩ := hrel
    by_cases hlt : k < l.length
    · obtain ⟨s, hsk⟩ : ∃ s, l[k]? = some s := ⟨l[k], List.getElem?_eq_getElem hlt⟩
      have hne : l ≠ [] := by intro e; subst e; simp at hlt
      obtain rfl := hs.here hne
      obtain rfl := hs'.here hne
      have hbw := hs.lt hne
      have hbw' := hs'.lt hne
      obtain ⟨c0, c1, c2, c3, c4, c5, c6⟩ := (hs.below hb (fun _ => hbw)).seven hsk
      obtain ⟨d0, d1, d2, d3, d4, d5, d6⟩ := (hs'.below hb (fun _ => hbw')).seven hsk
      have k0 : (0 : Int) ≤ (k : Int) := by omega
      have k1 : (k : Int) < (l.length : Int) := by omega
      have hbx : b < wr.heap.size := Nat.lt_of_lt_of_le hbw hb.size
      have hbx' : b' < wr.heap.size := Nat.lt_of_lt_of_le hbw' hb.size
      have HS : Hid (l[k]? = some s) := hsk
      clear hsk
      go_wp2
      go_region_held3 (fun w' => w'.cell? ⟨b, o + k * 7, none⟩ = some (.int .i64 s.x) ∧ w'.cell? ⟨b, o + k * 7 + 1, none⟩ = some (.int .i64 s.y) ∧ w'.cell? ⟨b, o + k * 7 + 2, none⟩ = some (.int .i64 s.lo) ∧ w'.cell? ⟨b, o + k * 7 + 3, none⟩ = some (.int .i64 s.hi) ∧ w'.cell? ⟨b, o + k * 7 + 4, none⟩ = some (.int .i64 s.fr) ∧ w'.cell? ⟨b, o + k * 7 + 5, none⟩ = some (.int .i64 s.by_) ∧ w'.cell? ⟨b, o + k * 7 + 6, none⟩ = some (.bool s.ho) ∧
        w'.cell? ⟨b', o' + k * 7, none⟩ = some (.int .i64 s.x) ∧ w'.cell? ⟨b', o' + k * 7 + 1, none⟩ = some (.int .i64 s.y) ∧ w'.cell? ⟨b', o' + k * 7 + 2, none⟩ = some (.int .i64 s.lo) ∧ w'.cell? ⟨b', o' + k * 7 + 3, none⟩ = some (.int .i64 s.hi) ∧ w'.cell? ⟨b', o' + k * 7 + 4, none⟩ = some (.int .i64 s.fr) ∧ w'.cell? ⟨b', o' + k * 7 + 5, none⟩ = some (.int .i64 s.by_) ∧ w'.cell? ⟨b', o' + k * 7 + 6, none⟩ = some (.bool s.ho))
        (simp [go_sem, *])
        (first | (go_at_call 35; refine (eqStep_same _ _ _ _ _ _ _ _).mono ?_; rintro e w1 ⟨rfl, hb1⟩; have hc1 : ∀ j, w1.cell? ⟨b, j, none⟩ = wr.cell? ⟨b, j, none⟩ := fun j => hb1.cell (p := ⟨b, j, none⟩) hbx; have hc2 : ∀ j, w1.cell? ⟨b', j, none⟩ = wr.cell? ⟨b', j, none⟩ := fun j => hb1.cell (p := ⟨b', j, none⟩) hbx'))
      go_wp2
      go_roundw
      case rel => exact ⟨k + 1, by omega, by go_num, hb.drew.trans (hb1.mono hb.size)⟩
      case measure => simp [intOf]; omega
    · go_wp2
      go_ret
      exact ⟨rfl, hb⟩

set_option maxHeartbeats 1000000 in
theorem eqPath_same (q s fr b : Int) (a a' : Option Addr) (b0 o cap b0' o' cap' : Nat) (l : List Stp) (w : World) (hl : l.length ≤ 1048576) (hs : StepsAt w a b0 o l) (hs' : StepsAt w a' b0' o' l) :
    Calls Tryz.prog 8 #[.agg #[.int .i64 q, .int .i64 s, .slice a l.length cap, .int .i64 fr, .int .i64 b], .agg #[.int .i64 q, .int .i64 s, .slice a' l.length cap', .int .i64 fr, .int .i64 b]] w
      fun e w' => e = .returned (.bool true) ∧ Below w.heap.size w w' := by
  go_enter Tryz.func8, Tryz.ntmps8
  go_wp2_with fail
  refine (eqKind_same _ _ _).mono ?_
  rintro e w1 ⟨rfl, hb1⟩
  obtain ⟨hc1, _⟩ := old_cells hb1
  have hz1 := hb1.size
  simp at hz1
  have hb01 : Below w.heap.size w w1 := (((Below.refl w.heap.size w).alloc (Nat.le_refl _) _).alloc (by simp) _).trans (hb1.mono (by simp; omega))
  have hC1 : ∀ b o, b < w.heap.size + 2 → w1.cell? ⟨b, o, none⟩ = _ := fun b o h => hc1 b o (by simp; omega)
  have a2 : w1.cell? ⟨w.heap.size, 2, none⟩ = some (.slice a l.length cap) := by rw [hC1 _ _ (by omega)]; simp [go_sem]
  have a3 : w1.cell? ⟨w.heap.size, 3, none⟩ = some (.int .i64 fr) := by rw [hC1 _ _ (by omega)]; simp [go_sem]
  have a4 : w1.cell? ⟨w.heap.size, 4, none⟩ = some (.int .i64 b) := by rw [hC1 _ _ (by omega)]; simp [go_sem]
  have d2 : w1.cell? ⟨w.heap.size + 1, 2, none⟩ = some (.slice a' l.length cap') := by rw [hC1 _ _ (by omega)]; simp [go_sem]
  have d3 : w1.cell? ⟨w.heap.size + 1, 3, none⟩ = some (.int .i64 fr) := by rw [hC1 _ _ (by omega)]; simp [go_sem]
  have d4 : w1.cell? ⟨w.heap.size + 1, 4, none⟩ = some (.int .i64 b) := by rw [hC1 _ _ (by omega)]; simp [go_sem]
  clear hc1 hC1
  go_wp2_with fail
  refine (eqSteps_same _ _ b0 o _ b0' o' _ _ _ hl (hs.below hb01 hs.lt) (hs'.below hb01 hs'.lt)).mono ?_
  rintro e w2 ⟨rfl, hb2⟩
  have z : w.heap.size + 1 < w1.heap.size := by omega
  have e3 : w2.cell? ⟨w.heap.size, 3, none⟩ = some (.int .i64 fr) := (hb2.cell (p := ⟨w.heap.size, 3, none⟩) (by show w.heap.size < _; omega)).trans a3
  have e4 : w2.cell? ⟨w.heap.size, 4, none⟩ = some (.int .i64 b) := (hb2.cell (p := ⟨w.heap.size, 4, none⟩) (by show w.heap.size < _; omega)).trans a4
  have g3 : w2.cell? ⟨w.heap.size + 1, 3, none⟩ = some (.int .i64 fr) := (hb2.cell (p := ⟨w.heap.size + 1, 3, none⟩) z).trans d3
  have g4 : w2.cell? ⟨w.heap.size + 1, 4, none⟩ = some (.int .i64 b) := (hb2.cell (p := ⟨w.heap.size + 1, 4, none⟩) z).trans d4
  go_wp2
  go_ret
  exact ⟨rfl, hb01.trans (hb2.mono (by omega))⟩
end Go.Proofs.YtfnopcgmlfedfaaGreatDoor

namespace Go.Proofs.YtfnopcgmlfedfaaGreatDoor
open Go.RowKit

/-- The boxes of the two arguments. -/
structure TwoB (w wr : World) (q s fr b : Int) (v : Value) (q' s' fr' b' : Int) (v' : Value) : Prop where
  old : Below w.heap.size w wr
  lt : w.heap.size + 1 < wr.heap.size
  p : wr.cell? ⟨w.heap.size, 0, none⟩ = some (.int .i64 q) ∧ wr.cell? ⟨w.heap.size, 1, none⟩ = some (.int .i64 s) ∧ wr.cell? ⟨w.heap.size, 2, none⟩ = some v ∧ wr.cell? ⟨w.heap.size, 3, none⟩ = some (.int .i64 fr) ∧ wr.cell? ⟨w.heap.size, 4, none⟩ = some (.int .i64 b)
  r : wr.cell? ⟨w.heap.size + 1, 0, none⟩ = some (.int .i64 q') ∧ wr.cell? ⟨w.heap.size + 1, 1, none⟩ = some (.int .i64 s') ∧ wr.cell? ⟨w.heap.size + 1, 2, none⟩ = some v' ∧ wr.cell? ⟨w.heap.size + 1, 3, none⟩ = some (.int .i64 fr') ∧ wr.cell? ⟨w.heap.size + 1, 4, none⟩ = some (.int .i64 b')
theorem TwoB.new (w : World) (q s fr b : Int) (v : Value) (q' s' fr' b' : Int) (v' : Value) (t t' : TypeId) : TwoB w ((w.alloc (.cells #[.int .i64 q, .int .i64 s, v, .int .i64 fr, .int .i64 b] t)).alloc (.cells #[.int .i64 q', .int .i64 s', v', .int .i64 fr', .int .i64 b'] t')) q s fr b v q' s' fr' b' v' :=
  ⟨((Below.refl _ _).alloc (Nat.le_refl _) _).alloc (by simp) _, by simp, by simp [go_sem], by simp [go_sem]⟩
theorem TwoB.below {w wr w2 : World} {q s fr b : Int} {v : Value} {q' s' fr' b' : Int} {v' : Value} (h : TwoB w wr q s fr b v q' s' fr' b' v') (hb : Below wr.heap.size wr w2) : TwoB w w2 q s fr b v q' s' fr' b' v' := by
  have c0 : ∀ j, w2.cell? ⟨w.heap.size, j, none⟩ = wr.cell? ⟨w.heap.size, j, none⟩ := fun j => hb.cell (p := ⟨w.heap.size, j, none⟩) (by have := h.lt; show w.heap.size < _; omega)
  have c1 : ∀ j, w2.cell? ⟨w.heap.size + 1, j, none⟩ = wr.cell? ⟨w.heap.size + 1, j, none⟩ := fun j => hb.cell (p := ⟨w.heap.size + 1, j, none⟩) h.lt
  refine ⟨h.old.trans (hb.mono h.old.size), Nat.lt_of_lt_of_le h.lt hb.size, ?_, ?_⟩
  · rw [c0, c0, c0, c0, c0]; exact h.p
  · rw [c1, c1, c1, c1, c1]; exact h.r

set_option maxRecDepth 20000 in
set_option maxHeartbeats 8000000 in
theorem turnLaw_any (m : Int) (q s fr b : Int) (a : Option Addr) (b0 o cap : Nat) (l : List Stp) (q' s' fr' b' : Int) (a' : Option Addr) (b0' o' cap' : Nat) (l' : List Stp) (f0 : Int) (w : World) (hl : l.length ≤ maxLen) (hl' : l'.length ≤ maxLen) (hs : StepsAt w a b0 o l) (hs' : StepsAt w a' b0' o' l')
    (hS : l.length ≤ 1048576 → l'.length ≤ 1048576 → ∀ (g g' : Nat) (W : World), StepsAt W (some ⟨g, 0, none⟩) g 0 l → StepsAt W (some ⟨g', 0, none⟩) g' 0 l' → Calls Tryz.prog 5 #[.agg #[.int .i64 q, .int .i64 s, .slice (some ⟨g, 0, none⟩) l.length l.length, .int .i64 fr, .int .i64 b], .agg #[.int .i64 q', .int .i64 s', .slice (some ⟨g', 0, none⟩) l'.length l'.length, .int .i64 fr', .int .i64 b'], .int .i64 f0] W fun e w' => e = .returned (.int .i64 m) ∧ Below W.heap.size W w')
    (hI : l.length ≤ 1048576 → l'.length ≤ 1048576 → ∀ (g g' : Nat) (W : World), StepsAt W (some ⟨g, 0, none⟩) g 0 l → StepsAt W (some ⟨g', 0, none⟩) g' 0 l' → Below w.heap.size w W → Calls Tryz.prog 7 #[.agg #[.int .i64 q, .int .i64 s, .slice (some ⟨g, 0, none⟩) l.length l.length, .int .i64 fr, .int .i64 b], .agg #[.int .i64 q', .int .i64 s', .slice (some ⟨g', 0, none⟩) l'.length l'.length, .int .i64 fr', .int .i64 b'], .int .i64 f0] W fun e w' => e = .returned (.int .i64 m) ∧ Below W.heap.size W w') :
    Calls Tryz.prog 3 #[.agg #[.int .i64 q, .int .i64 s, .slice a l.length cap, .int .i64 fr, .int .i64 b], .agg #[.int .i64 q', .int .i64 s', .slice a' l'.length cap', .int .i64 fr', .int .i64 b'], .int .i64 f0] w fun e w' => e = .returned (.bool true) ∧ Below w.heap.size w w' := by
  have T0 := TwoB.new w q s fr b (.slice a l.length cap) q' s' fr' b' (.slice a' l'.length cap') 26 26
  obtain ⟨L1, hL1⟩ : ∃ L1, leftB 1048576 l.length = L1 := ⟨_, rfl⟩
  obtain ⟨hL1a, hL1b⟩ := leftB_left 1048576 l.length (by omega) (by omega)
  rw [hL1] at hL1a hL1b
  go_enter Tryz.func3, Tryz.ntmps3
  go_wp2_with fail
  refine (szPath_any _ _ _ _ _ _ _ _ _ hl (by omega) (by omega)).mono ?_
  rw [hL1]
  rintro e w1 ⟨rfl, hb1⟩
  have T1 := T0.below hb1
  clear hb1 T0
  by_cases h1 : L1 < 0
  · go_wp2
    go_ret
    exact ⟨rfl, T1.old⟩
  have hn1 : l.length ≤ 1048576 := by
    unfold leftB at hL1
    split at hL1 <;> omega
  obtain ⟨L2, hL2⟩ : ∃ L2, leftB L1 l'.length = L2 := ⟨_, rfl⟩
  obtain ⟨r0, r1, r2, r3, r4⟩ := T1.r
  go_wp2_with fail
  refine (szPath_any _ _ _ _ _ _ _ _ _ hl' (by omega) (by omega)).mono ?_
  rw [hL2]
  rintro e w2 ⟨rfl, hb2⟩
  have T2 := T1.below hb2
  clear hb2 T1 r0 r1 r2 r3 r4
  by_cases h2 : L2 < 0
  · go_wp2
    go_ret
    exact ⟨rfl, T2.old⟩
  have hn2 : l'.length ≤ 1048576 := by
    unfold leftB at hL2
    split at hL2 <;> omega
  have hS' := hS hn1 hn2
  have hI' := hI hn1 hn2
  clear hS hI hL1 hL2 hL1a hL1b
  obtain ⟨p0, p1, p2, p3, p4⟩ := T2.p
  obtain ⟨r0, r1, r2, r3, r4⟩ := T2.r
  have zr := T2.lt
  have zp : w.heap.size < w2.heap.size := by omega
  have hsd : StepsAt w2.drew a b0 o l := (hs.below T2.old hs.lt).below (Below.refl w2.heap.size w2).drew (hs.below T2.old hs.lt).lt
  have hsd' : StepsAt w2.drew a' b0' o' l' := (hs'.below T2.old hs'.lt).below (Below.refl w2.heap.size w2).drew (hs'.below T2.old hs'.lt).lt
  go_wp2
  go_region_held3 (fun w' => w'.cell? ⟨w.heap.size, 0, none⟩ = some (.int .i64 q) ∧ w'.cell? ⟨w.heap.size, 1, none⟩ = some (.int .i64 s) ∧ w'.cell? ⟨w.heap.size, 2, none⟩ = some (.slice a l.length cap) ∧ w'.cell? ⟨w.heap.size, 3, none⟩ = some (.int .i64 fr) ∧ w'.cell? ⟨w.heap.size, 4, none⟩ = some (.int .i64 b) ∧
      w'.cell? ⟨w.heap.size + 1, 0, none⟩ = some (.int .i64 q') ∧ w'.cell? ⟨w.heap.size + 1, 1, none⟩ = some (.int .i64 s') ∧ w'.cell? ⟨w.heap.size + 1, 2, none⟩ = some (.slice a' l'.length cap') ∧ w'.cell? ⟨w.heap.size + 1, 3, none⟩ = some (.int .i64 fr') ∧ w'.cell? ⟨w.heap.size + 1, 4, none⟩ = some (.int .i64 b'))
    (simp [go_sem, *])
    (first
      | (go_at_call_of 6 (Value.slice a l.length cap); refine (toPath_any _ _ _ _ _ b0 o _ _ _ hn1 hsd).mono ?_; rintro e w3 ⟨g3, rfl, hg3, hg3', hs3, hb3⟩; have n0 : ∀ j, w3.cell? ⟨w.heap.size, j, none⟩ = w2.cell? ⟨w.heap.size, j, none⟩ := fun j => hb3.cell (p := ⟨w.heap.size, j, none⟩) zp; have n1 : ∀ j, w3.cell? ⟨w.heap.size + 1, j, none⟩ = w2.cell? ⟨w.heap.size + 1, j, none⟩ := fun j => hb3.cell (p := ⟨w.heap.size + 1, j, none⟩) zr)
      | (go_at_call_of 6 (Value.slice a' l'.length cap'); refine (toPath_any _ _ _ _ _ b0' o' _ _ _ hn2 (hsd'.below hb3 hsd'.lt)).mono ?_; rintro e w4 ⟨g4, rfl, hg4, hg4', hs4, hb4⟩; have n2 : ∀ j, w4.cell? ⟨w.heap.size, j, none⟩ = w3.cell? ⟨w.heap.size, j, none⟩ := fun j => hb4.cell (p := ⟨w.heap.size, j, none⟩) (Nat.lt_of_lt_of_le zp hb3.size); have n3 : ∀ j, w4.cell? ⟨w.heap.size + 1, j, none⟩ = w3.cell? ⟨w.heap.size + 1, j, none⟩ := fun j => hb4.cell (p := ⟨w.heap.size + 1, j, none⟩) (Nat.lt_of_lt_of_le zr hb3.size))
      | (go_at_call 5; refine (hS' g3 g4 w4 (hs3.below hb4 (fun _ => hg3')) hs4).mono ?_; rintro e w5 ⟨rfl, hb5⟩; have n4 : ∀ j, w5.cell? ⟨w.heap.size, j, none⟩ = w4.cell? ⟨w.heap.size, j, none⟩ := fun j => hb5.cell (p := ⟨w.heap.size, j, none⟩) (Nat.lt_of_lt_of_le (Nat.lt_of_lt_of_le zp hb3.size) hb4.size); have n5 : ∀ j, w5.cell? ⟨w.heap.size + 1, j, none⟩ = w4.cell? ⟨w.heap.size + 1, j, none⟩ := fun j => hb5.cell (p := ⟨w.heap.size + 1, j, none⟩) (Nat.lt_of_lt_of_le (Nat.lt_of_lt_of_le zr hb3.size) hb4.size)))
  have B5 : Below w2.heap.size w2 w5 := (((Below.refl w2.heap.size w2).drew).trans hb3).trans ((hb4.mono hb3.size).trans (hb5.mono (Nat.le_trans hb3.size hb4.size)))
  have T5 := T2.below B5
  clear n0 n1 n2 n3 n4 n5 hb3 hb4 hb5 hs3 hs4 hsd hsd' hg3 hg3' hg4 hg4' p0 p1 p2 p3 p4 r0 r1 r2 r3 r4 T2 B5 zp zr hS'
  obtain ⟨p0, p1, p2, p3, p4⟩ := T5.p
  go_wp2_with fail
  refine (toPath_any _ _ _ _ _ b0 o _ _ _ hn1 (hs.below T5.old hs.lt)).mono ?_
  rintro e w6 ⟨g6, rfl, hg6, hg6', hs6, hb6⟩
  have T6 := T5.below hb6
  have X6 := PathAt.new w6 q s fr b (.slice (some ⟨g6, 0, none⟩) l.length l.length)
  have al6 : Below w6.heap.size w6 (w6.alloc (.cells #[.int .i64 q, .int .i64 s, .slice (some ⟨g6, 0, none⟩) l.length l.length, .int .i64 fr, .int .i64 b] 32)) := (Below.refl _ _).alloc (Nat.le_refl _) _
  have T6' := T6.below al6
  have hs6' := hs6.below al6 (fun _ => hg6')
  have hg6'' : g6 < (w6.alloc (.cells #[.int .i64 q, .int .i64 s, .slice (some ⟨g6, 0, none⟩) l.length l.length, .int .i64 fr, .int .i64 b] 32)).heap.size := Nat.lt_of_lt_of_le hg6' al6.size
  clear p0 p1 p2 p3 p4 T5 T6 al6 hb6 hs6 hg6 hg6'
  obtain ⟨r0, r1, r2, r3, r4⟩ := T6'.r
  go_wp2_with fail
  refine (toPath_any _ _ _ _ _ b0' o' _ _ _ hn2 (hs'.below T6'.old hs'.lt)).mono ?_
  rintro e w7 ⟨g7, rfl, hg7, hg7', hs7, hb7⟩
  have T7 := T6'.below hb7
  have X7 := X6.keep hb7 X6.lt
  have hs6'' := hs6'.below hb7 (fun _ => hg6'')
  have Y7 := PathAt.new w7 q' s' fr' b' (.slice (some ⟨g7, 0, none⟩) l'.length l'.length)
  have al7 : Below w7.heap.size w7 (w7.alloc (.cells #[.int .i64 q', .int .i64 s', .slice (some ⟨g7, 0, none⟩) l'.length l'.length, .int .i64 fr', .int .i64 b'] 32)) := (Below.refl _ _).alloc (Nat.le_refl _) _
  have T8 := T7.below al7
  have X8 := X7.keep al7 X7.lt
  have hg67 : g6 < w7.heap.size := Nat.lt_of_lt_of_le hg6'' hb7.size
  have hsx8 := hs6''.below al7 (fun _ => hg67)
  have hsy8 := hs7.below al7 (fun _ => hg7')
  have hg68 := Nat.lt_of_lt_of_le hg67 al7.size
  have hg78 := Nat.lt_of_lt_of_le hg7' al7.size
  clear r0 r1 r2 r3 r4 T6' T7 X6 X7 hb7 hs7 hg7 hg7' hs6' hs6'' hg6'' hg67 al7
  obtain ⟨⟨x0, x1, x2, x3, x4⟩, _⟩ := X8.cells
  obtain ⟨⟨y0, y1, y2, y3, y4⟩, _⟩ := Y7.cells
  go_wp2_with fail
  refine (hI' g6 g7 _ hsx8 hsy8 T8.old).mono ?_
  rintro e w9 ⟨rfl, hb9⟩
  have T9 := T8.below hb9
  have X9 := X8.keep hb9 X8.lt
  have Y9 := Y7.keep hb9 Y7.lt
  have hsx9 := hsx8.below hb9 (fun _ => hg68)
  have hsy9 := hsy8.below hb9 (fun _ => hg78)
  have hg69 := Nat.lt_of_lt_of_le hg68 hb9.size
  have hg79 := Nat.lt_of_lt_of_le hg78 hb9.size
  clear x0 x1 x2 x3 x4 y0 y1 y2 y3 y4 T8 X8 Y7 hsx8 hsy8 hg68 hg78 hb9 hI'
  obtain ⟨p0, p1, p2, p3, p4⟩ := T9.p
  obtain ⟨⟨x0, x1, x2, x3, x4⟩, _⟩ := X9.cells
  have zp : w.heap.size < w9.heap.size := by have := T9.lt; omega
  have zx := X9.lt
  have hsd : StepsAt w9.drew a b0 o l := (hs.below T9.old hs.lt).below (Below.refl w9.heap.size w9).drew (hs.below T9.old hs.lt).lt
  have hsxd : StepsAt w9.drew (some ⟨g6, 0, none⟩) g6 0 l := hsx9.below (Below.refl w9.heap.size w9).drew hsx9.lt
  generalize w6.heap.size = B6 at *
  generalize w7.heap.size = B7 at *
  go_wp2
  go_region_held3 (fun w' => w'.cell? ⟨w.heap.size, 0, none⟩ = some (.int .i64 q) ∧ w'.cell? ⟨w.heap.size, 1, none⟩ = some (.int .i64 s) ∧ w'.cell? ⟨w.heap.size, 2, none⟩ = some (.slice a l.length cap) ∧ w'.cell? ⟨w.heap.size, 3, none⟩ = some (.int .i64 fr) ∧ w'.cell? ⟨w.heap.size, 4, none⟩ = some (.int .i64 b) ∧
      w'.cell? ⟨B6, 0, none⟩ = some (.int .i64 q) ∧ w'.cell? ⟨B6, 1, none⟩ = some (.int .i64 s) ∧ w'.cell? ⟨B6, 2, none⟩ = some (.slice (some ⟨g6, 0, none⟩) l.length l.length) ∧ w'.cell? ⟨B6, 3, none⟩ = some (.int .i64 fr) ∧ w'.cell? ⟨B6, 4, none⟩ = some (.int .i64 b))
    (simp [go_sem, *])
    (first
      | (go_at_call 6; refine (toPath_any _ _ _ _ _ b0 o _ _ _ hn1 hsd).mono ?_; rintro e wa ⟨ga, rfl, hga, hga', hsa, hba⟩; have n0 : ∀ j, wa.cell? ⟨w.heap.size, j, none⟩ = w9.cell? ⟨w.heap.size, j, none⟩ := fun j => hba.cell (p := ⟨w.heap.size, j, none⟩) zp; have n1 : ∀ j, wa.cell? ⟨B6, j, none⟩ = w9.cell? ⟨B6, j, none⟩ := fun j => hba.cell (p := ⟨B6, j, none⟩) zx)
      | (go_at_call 8; refine (eqPath_same _ _ _ _ _ _ g6 0 _ ga 0 _ _ _ hn1 (hsxd.below hba (fun _ => hg69)) hsa).mono ?_; rintro e wb ⟨rfl, hbb⟩; have n2 : ∀ j, wb.cell? ⟨w.heap.size, j, none⟩ = wa.cell? ⟨w.heap.size, j, none⟩ := fun j => hbb.cell (p := ⟨w.heap.size, j, none⟩) (Nat.lt_of_lt_of_le zp hba.size); have n3 : ∀ j, wb.cell? ⟨B6, j, none⟩ = wa.cell? ⟨B6, j, none⟩ := fun j => hbb.cell (p := ⟨B6, j, none⟩) (Nat.lt_of_lt_of_le zx hba.size)))
  have Bb : Below w9.heap.size w9 wb := ((Below.refl w9.heap.size w9).drew).trans (hba.trans (hbb.mono hba.size))
  have Tb := T9.below Bb
  have Yb := Y9.keep Bb Y9.lt
  have hsyb := hsy9.below Bb (fun _ => hg79)
  have hg7b := Nat.lt_of_lt_of_le hg79 Bb.size
  clear n0 n1 n2 n3 hba hbb hsa hga hga' hsd hsxd hsx9 hsy9 hg69 hg79 zp zx p0 p1 p2 p3 p4 x0 x1 x2 x3 x4 T9 X9 Y9 Bb
  obtain ⟨r0, r1, r2, r3, r4⟩ := Tb.r
  obtain ⟨⟨y0, y1, y2, y3, y4⟩, _⟩ := Yb.cells
  have zr := Tb.lt
  have zy := Yb.lt
  have hsd : StepsAt wb.drew a' b0' o' l' := (hs'.below Tb.old hs'.lt).below (Below.refl wb.heap.size wb).drew (hs'.below Tb.old hs'.lt).lt
  have hsyd : StepsAt wb.drew (some ⟨g7, 0, none⟩) g7 0 l' := hsyb.below (Below.refl wb.heap.size wb).drew hsyb.lt
  go_wp2
  go_region_held3 (fun w' => w'.cell? ⟨w.heap.size + 1, 0, none⟩ = some (.int .i64 q') ∧ w'.cell? ⟨w.heap.size + 1, 1, none⟩ = some (.int .i64 s') ∧ w'.cell? ⟨w.heap.size + 1, 2, none⟩ = some (.slice a' l'.length cap') ∧ w'.cell? ⟨w.heap.size + 1, 3, none⟩ = some (.int .i64 fr') ∧ w'.cell? ⟨w.heap.size + 1, 4, none⟩ = some (.int .i64 b') ∧
      w'.cell? ⟨B7, 0, none⟩ = some (.int .i64 q') ∧ w'.cell? ⟨B7, 1, none⟩ = some (.int .i64 s') ∧ w'.cell? ⟨B7, 2, none⟩ = some (.slice (some ⟨g7, 0, none⟩) l'.length l'.length) ∧ w'.cell? ⟨B7, 3, none⟩ = some (.int .i64 fr') ∧ w'.cell? ⟨B7, 4, none⟩ = some (.int .i64 b'))
    (simp [go_sem, *])
    (first
      | (go_at_call 6; refine (toPath_any _ _ _ _ _ b0' o' _ _ _ hn2 hsd).mono ?_; rintro e wc ⟨gc, rfl, hgc, hgc', hsc, hbc⟩; have n0 : ∀ j, wc.cell? ⟨w.heap.size + 1, j, none⟩ = wb.cell? ⟨w.heap.size + 1, j, none⟩ := fun j => hbc.cell (p := ⟨w.heap.size + 1, j, none⟩) zr; have n1 : ∀ j, wc.cell? ⟨B7, j, none⟩ = wb.cell? ⟨B7, j, none⟩ := fun j => hbc.cell (p := ⟨B7, j, none⟩) zy)
      | (go_at_call 8; refine (eqPath_same _ _ _ _ _ _ g7 0 _ gc 0 _ _ _ hn2 (hsyd.below hbc (fun _ => hg7b)) hsc).mono ?_; rintro e wd ⟨rfl, hbd⟩; have n2 : ∀ j, wd.cell? ⟨w.heap.size + 1, j, none⟩ = wc.cell? ⟨w.heap.size + 1, j, none⟩ := fun j => hbd.cell (p := ⟨w.heap.size + 1, j, none⟩) (Nat.lt_of_lt_of_le zr hbc.size); have n3 : ∀ j, wd.cell? ⟨B7, j, none⟩ = wc.cell? ⟨B7, j, none⟩ := fun j => hbd.cell (p := ⟨B7, j, none⟩) (Nat.lt_of_lt_of_le zy hbc.size)))
  have Bd : Below wb.heap.size wb wd := ((Below.refl wb.heap.size wb).drew).trans (hbc.trans (hbd.mono hbc.size))
  have Td := Tb.below Bd
  clear n0 n1 n2 n3
  go_wp2
  go_ret
  exact ⟨rfl, Td.old⟩
end Go.Proofs.YtfnopcgmlfedfaaGreatDoor
