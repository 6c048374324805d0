/- Joined texts: IntKey, LooksMap, TurnW, TurnO, TurnM, TurnA, TurnK, TurnBy, WfAllI. -/
import Derived.WalkKit
import Derived.Deep.RegionHeld3
import Derived.Test.YtijcdikekgmfoaaGreatDoorRows
import Derived.Test.YtijcdikekgmfoaaGreatDoorJ05
import Derived.Test.YtijcdikekgmfoaaGreatDoorOnceI
import Derived.Test.YtijcdikekgmfoaaGreatDoorData
import Derived.Test.YtijcdikekgmfoaaGreatDoorPathKit
import Derived.Test.YtijcdikekgmfoaaGreatDoorSpanLeaf
import Derived.Test.YtijcdikekgmfoaaGreatDoorJ03
import Derived.Test.YtijcdikekgmfoaaGreatDoorOwnMore
import Derived.Test.YtijcdikekgmfoaaGreatDoorJ06
import Derived.Test.YtijcdikekgmfoaaGreatDoorJ07
namespace Go.Proofs.YtijcdikekgmfoaaGreatDoor
open Go.RowKit

theorem int_check (em : Bool) (n : Nat) (i : Int) (w : World) : (Instr.checkKey em (n + 1) 3 (.int .i64 i)).run Tryz.prog w = .ok () w := by
  simp [Instr.checkKey, run_underlying Tryz.underlying3, Result.andThen]
theorem int_equal (n : Nat) (i j : Int) (w : World) : (Op.equalIn (n + 1) 3 (.int .i64 i) (.int .i64 j)).run Tryz.prog w = .ok (i == j) w := by
  simp [Op.equalIn, run_underlying Tryz.underlying3, Result.andThen]
theorem int_part0 (i j : Int) (w : World) : (part 3 #[.int .i64 i, .int .i64 j] 0).run Tryz.prog w = .ok (.int .i64 i) w := by
  simp [part, isAgg, run_underlying Tryz.underlying3, Result.andThen]
theorem int_part1 (i j : Int) (w : World) : (part 3 #[.int .i64 i, .int .i64 j] 1).run Tryz.prog w = .ok (.int .i64 j) w := by
  simp [part, isAgg, run_underlying Tryz.underlying3, Result.andThen]
theorem cell_stays (w : World) (i j : Int) : (Instr.keyThatStays (keyV i j) (keyV i j)).run Tryz.prog w = .ok (keyV i j) w := by
  have h : Instr.sameBits (9998 + 1 + 1) (keyV i j) (keyV i j) = true := by simp [Instr.sameBits]
  simp [Instr.keyThatStays, h]
end Go.Proofs.YtijcdikekgmfoaaGreatDoor

namespace Go.Proofs.YtijcdikekgmfoaaGreatDoor
open Go.RowKit Go.ChangeMaps

/-- Block b is a map of what f says, at some places. -/
def Lks (w : World) (b : Nat) (f : Int → Int → Bool) : Prop := ∃ es clock, w.heap[b]? = some (.map es clock) ∧ ∀ x ∈ es.toList, ∃ i j, x.key = keyV i j ∧ x.val = .agg #[.bool (f i j)]
theorem Lks.made (w : World) (f : Int → Int → Bool) : Lks (w.alloc (.map #[] 0)) w.heap.size f := ⟨#[], 0, (MapKept.heap_alloc w _).1, by simp⟩
theorem Lks.of_block {w w' : World} {b : Nat} {f : Int → Int → Bool} (h : Lks w b f) (hb : w'.heap[b]? = w.heap[b]?) : Lks w' b f := by
  obtain ⟨es, c, e, k⟩ := h
  exact ⟨es, c, hb.trans e, k⟩
theorem Lks.lt {w : World} {b : Nat} {f : Int → Int → Bool} (h : Lks w b f) : b < w.heap.size := by
  obtain ⟨es, c, e, _⟩ := h
  exact (Array.getElem?_eq_some_iff.1 e).1
section
variable {P : Program} {k : TypeId} {w : World} {b : Nat} {f : Int → Int → Bool}
theorem Lks.look {t E : TypeId} (K : CellKey P k) (ht : P.underlying t = some (.map k E)) (hz : (zeroValue E).run P w = .ok (.agg #[.bool false]) w) (h : Lks w b f) (i j : Int) :
    ∃ v known : Bool, (Instr.lookup t (.map (some b)) (keyV i j) true).run P w = .ok (.tuple #[.agg #[.bool v], .bool known]) w ∧ (known = true → v = f i j) := by
  obtain ⟨es, clock, hb, hE⟩ := h
  rcases K.find w i j es.toList (fun x hx => by obtain ⟨a, c, hk, _⟩ := hE x hx; exact ⟨a, c, hk⟩) with ⟨f1, f2⟩ | ⟨n, x0, f1, f2, f3⟩
  · exact ⟨false, false, by simp [Instr.lookup, run_underlying ht, MapKept.run_getObj_map hb, K.check w _ i j, f1, hz, Result.andThen], fun e => by cases e⟩
  · obtain ⟨a, c, hk, hv⟩ := hE x0 (List.mem_of_getElem? f2)
    obtain ⟨rfl, rfl⟩ := keyV_inj (hk.symm.trans f3)
    exact ⟨f a c, true, by simp [Instr.lookup, run_underlying ht, MapKept.run_getObj_map hb, K.check w _ a c, f1, hv, Result.andThen], fun _ => rfl⟩
theorem Lks.put {t E : TypeId} (K : CellKey P k) (ht : P.underlying t = some (.map k E)) (h : Lks w b f) (i j : Int) :
    ∃ w', (Instr.mapUpdate t (.map (some b)) (keyV i j) (.agg #[.bool (f i j)])).run P w = .ok () w' ∧ Lks w' b f ∧ w.grownBy w' (some b) := by
  obtain ⟨es, clock, hb, hE⟩ := h
  have hlt : b < w.heap.size := (Array.getElem?_eq_some_iff.1 hb).1
  rcases K.find w i j es.toList (fun x hx => by obtain ⟨a, c, hk, _⟩ := hE x hx; exact ⟨a, c, hk⟩) with ⟨f1, f2⟩ | ⟨n, x0, f1, f2, f3⟩
  · refine ⟨setBlock w b (.map (es.push ⟨keyV i j, .agg #[.bool (f i j)], clock⟩) (clock + 1)), ?_, ?_, setBlock_grown hb _⟩
    · simp [Instr.mapUpdate, run_underlying ht, MapKept.run_getObj_map hb, K.check w false i j, f1, MapKept.run_setObj_map _ hb, Result.andThen, setBlock]
    · refine ⟨es.push ⟨keyV i j, .agg #[.bool (f i j)], clock⟩, clock + 1, by simp [setBlock, hlt], fun x hx => ?_⟩
      simp only [Array.toList_push, List.mem_append, List.mem_singleton] at hx
      rcases hx with hx | rfl
      · exact hE x hx
      · exact ⟨i, j, rfl, rfl⟩
  · have hj : es[n]? = some x0 := by simpa using f2
    refine ⟨setBlock w b (.map (es.modify n (fun e' => { e' with key := keyV i j, val := .agg #[.bool (f i j)] })) clock), ?_, ?_, setBlock_grown hb _⟩
    · simp [Instr.mapUpdate, run_underlying ht, MapKept.run_getObj_map hb, K.check w false i j, f1, hj, f3, K.stays w i j, MapKept.run_setObj_map _ hb, Result.andThen, setBlock]
    · refine ⟨es.modify n (fun e' => { e' with key := keyV i j, val := .agg #[.bool (f i j)] }), clock, by simp [setBlock, hlt], fun x hx => ?_⟩
      obtain ⟨m, hm⟩ := List.mem_iff_getElem?.1 hx
      rw [Array.toList_modify, List.getElem?_modify] at hm
      cases hq : es.toList[m]? with
      | none => rw [hq] at hm; simp at hm
      | some y =>
        rw [hq] at hm
        simp only [Option.map_eq_map, Option.map_some, Option.some.injEq] at hm
        split at hm
        · subst hm
          exact ⟨i, j, rfl, rfl⟩
        · subst hm
          exact hE _ (List.mem_of_getElem? hq)
end
end Go.Proofs.YtijcdikekgmfoaaGreatDoor

namespace Go.Proofs.YtijcdikekgmfoaaGreatDoor
open Go.RowKit Go.ChangeMaps

/-- The ten cells of the two paths. -/
abbrev twoC (q s : Int) (v : Value) (fr b q' s' : Int) (v' : Value) (fr' b' : Int) (x : List Value) : Array Value := (([.int .i64 q, .int .i64 s, v, .int .i64 fr, .int .i64 b, .int .i64 q', .int .i64 s', v', .int .i64 fr', .int .i64 b'] : List Value) ++ x).toArray
/-- All lies as it lay, but for block TB and for maps behind it. -/
structure Tk (TB : Nat) (V V' : World) : Prop where
  old : Below TB V V'
  size : V.heap.size ≤ V'.heap.size
  keep : ∀ k cs T f, k ≠ TB → V.heap[k]? = some (.cells cs T f) → V'.heap[k]? = some (.cells cs T f)
theorem Tk.refl (TB : Nat) (V : World) : Tk TB V V := ⟨Below.refl _ _, Nat.le_refl _, fun _ _ _ _ _ h => h⟩
theorem Tk.trans {TB : Nat} {A B C : World} (h : Tk TB A B) (k : Tk TB B C) : Tk TB A C := ⟨h.old.trans k.old, Nat.le_trans h.size k.size, fun i cs T f hi e => k.keep i cs T f hi (h.keep i cs T f hi e)⟩
theorem Tk.below {TB : Nat} {V V' : World} (hb : Below V.heap.size V V') (hT : TB ≤ V.heap.size) : Tk TB V V' := ⟨hb.mono hT, hb.size, fun k _cs _T _f _ e => (hb.block k (Array.getElem?_eq_some_iff.1 e).1).trans e⟩
/-- The block of the turning: made once or not yet. -/
structure Tw (f : Int → Int → Bool) (X : List Value → Array Value) (TB : Nat) (V : World) : Prop where
  it : (∃ T, V.heap[TB]? = some (.cells (X [.int .u32 0, .int .i32 0, .int .u32 0, .map none]) T (0, 0))) ∨ ∃ T mb, TB < mb ∧ V.heap[TB]? = some (.cells (X [.int .u32 1, .int .i32 0, .int .u32 0, .map (some mb)]) T (0, 0)) ∧ Lks V mb f
end Go.Proofs.YtijcdikekgmfoaaGreatDoor

namespace Go.Proofs.YtijcdikekgmfoaaGreatDoor
open Go.RowKit Go.ChangeMaps

theorem Tk.set {TB j : Nat} (V : World) (v : Value) : Tk TB V (V.setCell ⟨TB, j, none⟩ v) :=
  ⟨Below.setCell (Below.refl _ _) (Nat.le_refl TB) _, by simp, fun k cs T f hk e => (heap_setCell_other V ⟨TB, j, none⟩ k v hk).trans e⟩
theorem Tk.alloc {TB : Nat} (V : World) (o : Obj) (h : TB ≤ V.heap.size) : Tk TB V (V.alloc o) := Tk.below ((Below.refl _ _).alloc (Nat.le_refl _) _) h
theorem Tk.drew {TB : Nat} (V : World) (h : TB ≤ V.heap.size) : Tk TB V V.drew := Tk.below (Below.refl _ _).drew h

set_option maxHeartbeats 1000000 in
theorem do_any (f : Int → Int → Bool) (q s : Int) (v : Value) (fr b q' s' : Int) (v' : Value) (fr' b' : Int) (TB : Nat) (pl : Addr) (V : World) (h : Tw f (twoC q s v fr b q' s' v' fr' b') TB V) (hpb : ¬ TB = pl.block) (hp : V.cell? pl = some (.pointer (some ⟨TB, 0, none⟩))) :
    Calls Tryz.prog 124 #[.pointer (some ⟨TB, 10, none⟩), .func (.func 125) #[] #[.pointer (some pl)]] V fun e V' => e = .returned (.tuple #[]) ∧
      (∃ T mb, TB < mb ∧ V'.heap[TB]? = some (.cells (twoC q s v fr b q' s' v' fr' b' [.int .u32 1, .int .i32 0, .int .u32 0, .map (some mb)]) T (0, 0)) ∧ Lks V' mb f) ∧ Tk TB V V' := by
  rcases h.it with ⟨T, hT⟩ | ⟨T, mb, hlt, hT, hm⟩
  · have hTB : TB < V.heap.size := (Array.getElem?_eq_some_iff.1 hT).1
    refine (do_first TB pl hpb (.map none) V hp (by simp [World.cell?, hT]) (by simp [World.cell?, hT]) (by simp [World.cell?, hT]) (fun j => by simp [World.frozen?, hT])).mono ?_
    rintro e V' ⟨rfl, rfl⟩
    have e1 := heap_setCell_same V TB 11 _ T (.int .i32 1) hT
    have e2 : ((V.setCell ⟨TB, 11, none⟩ (.int .i32 1)).alloc (.map #[] 0)).heap[TB]? = _ := (((Below.refl (V.setCell ⟨TB, 11, none⟩ (.int .i32 1)).heap.size (V.setCell ⟨TB, 11, none⟩ (.int .i32 1))).alloc (Nat.le_refl _) (.map #[] 0)).block TB (by simpa using hTB)).trans e1
    have e3 := heap_setCell_same _ TB 13 _ T (.map (some V.heap.size)) e2
    have e4 : (((V.setCell ⟨TB, 11, none⟩ (.int .i32 1)).alloc (.map #[] 0)).setCell ⟨TB, 13, none⟩ (.map (some V.heap.size))).drew.heap[TB]? = _ := e3
    have e5 := heap_setCell_same _ TB 10 _ T (.int .u32 1) e4
    have e6 := heap_setCell_same _ TB 11 _ T (.int .i32 0) e5
    refine ⟨rfl, ⟨T, V.heap.size, hTB, ?_, ?_⟩, ?_⟩
    · rw [e6]
      simp [twoC]
    · have m0 := Lks.made (V.setCell ⟨TB, 11, none⟩ (.int .i32 1)) f
      rw [show (V.setCell ⟨TB, 11, none⟩ (.int .i32 1)).heap.size = V.heap.size by simp] at m0
      have hne : V.heap.size ≠ TB := by omega
      have m1 := m0.of_block (heap_setCell_other _ ⟨TB, 13, none⟩ V.heap.size (.map (some V.heap.size)) hne)
      have m2 := Lks.of_block (w' := (((V.setCell ⟨TB, 11, none⟩ (.int .i32 1)).alloc (.map #[] 0)).setCell ⟨TB, 13, none⟩ (.map (some V.heap.size))).drew) m1 rfl
      have m3 := m2.of_block (heap_setCell_other _ ⟨TB, 10, none⟩ V.heap.size (.int .u32 1) hne)
      exact m3.of_block (heap_setCell_other _ ⟨TB, 11, none⟩ V.heap.size (.int .i32 0) hne)
    · exact (((((Tk.set V _).trans (Tk.alloc _ _ (by simp; omega))).trans (Tk.set _ _)).trans (Tk.drew _ (by simp; omega))).trans (Tk.set _ _)).trans (Tk.set _ _)
  · refine (do_done ⟨TB, 10, none⟩ _ V (by simp [World.cell?, hT])).mono ?_
    rintro e V' ⟨rfl, rfl⟩
    exact ⟨rfl, ⟨T, mb, hlt, hT, hm⟩, Tk.refl _ _⟩
end Go.Proofs.YtijcdikekgmfoaaGreatDoor

namespace Go.Proofs.YtijcdikekgmfoaaGreatDoor
open Go.RowKit Go.ChangeMaps

theorem moment_check (w : World) (em : Bool) (n : Nat) (i j : Int) : (Instr.checkKey em (n + 1 + 1) 173 (keyV i j)).run Tryz.prog w = .ok () w := by
  rw [Instr.checkKey]
  simp [run_underlying Tryz.underlying173, Result.andThen, int_check, int_part0, int_part1]
theorem moment_equal (w : World) (n : Nat) (i j i' j' : Int) : (Op.equalIn (n + 1 + 1) 173 (keyV i j) (keyV i' j')).run Tryz.prog w = .ok (decide (i = i' ∧ j = j')) w := by
  rw [Op.equalIn]
  by_cases h1 : i = i'
  · by_cases h2 : j = j'
    · simp [run_underlying Tryz.underlying173, Result.andThen, int_equal, int_part0, int_part1, h1, h2]
    · simp [run_underlying Tryz.underlying173, Result.andThen, int_equal, int_part0, int_part1, h1, h2]
  · simp [run_underlying Tryz.underlying173, Result.andThen, int_equal, int_part0, h1]
theorem moment_key : CellKey Tryz.prog 173 where
  check w em i j := moment_check w em 9998 i j
  equal w i j i' j' := moment_equal w 9998 i j i' j'
  stays w i j := cell_stays w i j
  plain := ⟨_, Tryz.underlying173⟩
theorem answer_zero (w : World) : (zeroValue 175).run Tryz.prog w = .ok (.agg #[.bool false]) w := by kernel_rfl

theorem Tw.keep {f : Int → Int → Bool} {X : List Value → Array Value} {TB : Nat} {V V' : World} (h : Tw f X TB V) (hb : Below V.heap.size V V') : Tw f X TB V' := by
  rcases h.it with ⟨T, hT⟩ | ⟨T, mb, hlt, hT, hm⟩
  · exact ⟨Or.inl ⟨T, (hb.block TB (Array.getElem?_eq_some_iff.1 hT).1).trans hT⟩⟩
  · exact ⟨Or.inr ⟨T, mb, hlt, (hb.block TB (Array.getElem?_eq_some_iff.1 hT).1).trans hT, hm.of_block (hb.block mb hm.lt)⟩⟩
theorem Tw.lt {f : Int → Int → Bool} {X : List Value → Array Value} {TB : Nat} {V : World} (h : Tw f X TB V) : TB < V.heap.size := by
  rcases h.it with ⟨T, hT⟩ | ⟨T, mb, hlt, hT, hm⟩
  · exact (Array.getElem?_eq_some_iff.1 hT).1
  · exact (Array.getElem?_eq_some_iff.1 hT).1
/-- The map is there. -/
structure Tm (f : Int → Int → Bool) (X : List Value → Array Value) (TB mb : Nat) (V : World) : Prop where
  lt : TB < mb
  blk : ∃ T, V.heap[TB]? = some (.cells (X [.int .u32 1, .int .i32 0, .int .u32 0, .map (some mb)]) T (0, 0))
  map : Lks V mb f
theorem Tm.keep {f : Int → Int → Bool} {X : List Value → Array Value} {TB mb : Nat} {V V' : World} (h : Tm f X TB mb V) (hb : Below V.heap.size V V') : Tm f X TB mb V' := by
  obtain ⟨T, hT⟩ := h.blk
  exact ⟨h.lt, ⟨T, (hb.block TB (Array.getElem?_eq_some_iff.1 hT).1).trans hT⟩, h.map.of_block (hb.block mb h.map.lt)⟩
theorem Tm.tw {f : Int → Int → Bool} {X : List Value → Array Value} {TB mb : Nat} {V : World} (h : Tm f X TB mb V) : Tw f X TB V := by
  obtain ⟨T, hT⟩ := h.blk
  exact ⟨Or.inr ⟨T, mb, h.lt, hT, h.map⟩⟩

theorem Tk.grown {f : Int → Int → Bool} {TB mb : Nat} {V V' : World} (h : Lks V mb f) (hlt : TB < mb) (hg : V.grownBy V' (some mb)) : Tk TB V V' :=
  ⟨⟨hg.os, hg.tape, hg.output, hg.size, fun k hk => hg.block k (by have := h.lt; omega) (fun e => by have := Option.some.inj e; omega)⟩, hg.size, fun k cs T fr _ e => (hg.block k (Array.getElem?_eq_some_iff.1 e).1 (fun e' => by
    have e2 := Option.some.inj e'
    subst e2
    obtain ⟨es, c, he, _⟩ := h
    rw [he] at e
    cases e)).trans e⟩
theorem Tm.other {f : Int → Int → Bool} {X : List Value → Array Value} {TB mb : Nat} {V V' : World} (h : Tm f X TB mb V) (h1 : V'.heap[TB]? = V.heap[TB]?) (h2 : V'.heap[mb]? = V.heap[mb]?) : Tm f X TB mb V' := by
  obtain ⟨T, hT⟩ := h.blk
  exact ⟨h.lt, ⟨T, h1.trans hT⟩, h.map.of_block h2⟩
theorem Lks.look_all {P : Program} {k : TypeId} {w : World} {b : Nat} {f : Int → Int → Bool} {t E : TypeId} (K : CellKey P k) (ht : P.underlying t = some (.map k E)) (hz : ∀ w, (zeroValue E).run P w = .ok (.agg #[.bool false]) w) (h : Lks w b f) (i j : Int) :
    ∃ v known : Bool, (∀ w', w'.heap[b]? = w.heap[b]? → (Instr.lookup t (.map (some b)) (keyV i j) true).run P w' = .ok (.tuple #[.agg #[.bool v], .bool known]) w') ∧ (known = true → v = f i j) := by
  obtain ⟨es, clock, hb, hE⟩ := h
  have hk : ∀ e ∈ es.toList, ∃ a b, e.key = keyV a b := fun x hx => by obtain ⟨a, c, hk, _⟩ := hE x hx; exact ⟨a, c, hk⟩
  by_cases hex : ∃ x ∈ es.toList, x.key = keyV i j
  · refine ⟨f i j, true, fun w' hw => ?_, fun _ => rfl⟩
    rcases K.find w' i j es.toList hk with ⟨f1, f2⟩ | ⟨n, x0, f1, f2, f3⟩
    · obtain ⟨x, hx, e⟩ := hex
      exact absurd e (f2 x hx)
    · obtain ⟨a, c, hk, hv⟩ := hE x0 (List.mem_of_getElem? f2)
      obtain ⟨rfl, rfl⟩ := keyV_inj (hk.symm.trans f3)
      simp [Instr.lookup, run_underlying ht, MapKept.run_getObj_map (hw.trans hb), K.check w' _ a c, f1, hv, Result.andThen]
  · refine ⟨false, false, fun w' hw => ?_, fun e => by cases e⟩
    rcases K.find w' i j es.toList hk with ⟨f1, f2⟩ | ⟨n, x0, f1, f2, f3⟩
    · simp [Instr.lookup, run_underlying ht, MapKept.run_getObj_map (hw.trans hb), K.check w' _ i j, f1, hz, Result.andThen]
    · exact absurd ⟨x0, List.mem_of_getElem? f2, f3⟩ hex

section
variable (f : Int → Int → Bool) (q s : Int) (v : Value) (fr b q' s' : Int) (v' : Value) (fr' b' : Int) (TB : Nat)
set_option maxHeartbeats 4000000 in
set_option maxRecDepth 20000 in
theorem turnMay_any (Ok : World → Prop) (hOk : ∀ W W', Ok W → Tk TB W W' → Ok W') (hM : ∀ (st nw : Int) (W : World), Ok W → Calls Tryz.prog 126 #[.agg #[.int .i64 q, .int .i64 s, v, .int .i64 fr, .int .i64 b], .agg #[.int .i64 q', .int .i64 s', v', .int .i64 fr', .int .i64 b'], .int .i64 st, .int .i64 nw] W fun e w' => e = .returned (.bool (f st nw)) ∧ Below W.heap.size W w')
    (st nw : Int) (V : World) (hV : Ok V) (h : Tw f (twoC q s v fr b q' s' v' fr' b') TB V) :
    Calls Tryz.prog 114 #[.pointer (some ⟨TB, 0, none⟩), .int .i64 st, .int .i64 nw] V fun e V' => e = .returned (.bool (f st nw)) ∧ Tw f (twoC q s v fr b q' s' v' fr' b') TB V' ∧ Tk TB V V' := by
  have hmf : ∀ (fn : Fn) (first cap : Array Value) (w : World), (Instr.makeFunc fn first cap).run Tryz.prog w = .ok (.func fn first cap) w := fun _ _ _ _ => rfl
  have hlt := h.lt
  obtain ⟨V1, hV1⟩ : ∃ V1, V.alloc (.cells #[.pointer (some ⟨TB, 0, none⟩)] 109) = V1 := ⟨_, rfl⟩
  have b1 : Below V.heap.size V V1 := by rw [← hV1]; exact (Below.refl _ _).alloc (Nat.le_refl _) _
  have p1 : V1.heap[V.heap.size]? = some (.cells #[.pointer (some ⟨TB, 0, none⟩)] 109 (0, 0)) := by rw [← hV1]; exact heap_alloc_new V _
  have c1 : V1.cell? ⟨V.heap.size, 0, none⟩ = some (.pointer (some ⟨TB, 0, none⟩)) := by simp [World.cell?, p1]
  have t1 := h.keep b1
  have k1 : Tk TB V V1 := Tk.below b1 (by omega)
  have nTB : ¬ TB = V.heap.size := by omega
  go_enter Tryz.func114, Tryz.ntmps114
  go_wp2_with fail
  clear hV1
  refine (do_any f q s v fr b q' s' v' fr' b' TB ⟨V.heap.size, 0, none⟩ _ t1 nTB c1).mono ?_
  rintro e V2 ⟨rfl, ⟨T, mb, hmb, hT, hm⟩, k2⟩
  have m2 : Tm f (twoC q s v fr b q' s' v' fr' b') TB mb V2 := ⟨hmb, ⟨T, hT⟩, hm⟩
  have p2 := k2.keep _ _ _ _ (fun e => nTB e.symm) p1
  have k02 := k1.trans k2
  clear c1 t1 b1 p1 k1 k2 hT hm hmb
  obtain ⟨V3, hV3⟩ : ∃ V3, V2.alloc (.cells #[.int .i64 st, .int .i64 nw] 173) = V3 := ⟨_, rfl⟩
  have b3 : Below V2.heap.size V2 V3 := by rw [← hV3]; exact (Below.refl _ _).alloc (Nat.le_refl _) _
  have q3 : V3.heap[V2.heap.size]? = some (.cells #[.int .i64 st, .int .i64 nw] 173 (0, 0)) := by rw [← hV3]; exact heap_alloc_new V2 _
  have m3 := m2.keep b3
  have p3 : V3.heap[V.heap.size]? = some (.cells #[.pointer (some ⟨TB, 0, none⟩)] 109 (0, 0)) := (b3.block _ (Array.getElem?_eq_some_iff.1 p2).1).trans p2
  have k03 : Tk TB V V3 := k02.trans (Tk.below b3 (by have := m2.tw.lt; omega))
  clear p2 m2 b3 k02
  go_wp2
  obtain ⟨vv, kk, hlk, hkv⟩ := m3.map.look_all moment_key Tryz.underlying122 answer_zero st nw
  have l1 : V3.cell? ⟨V.heap.size, 0, none⟩ = some (.pointer (some ⟨TB, 0, none⟩)) := by simp [World.cell?, p3]
  have l2 : V3.cell? ⟨TB, 13, none⟩ = some (.map (some mb)) := by obtain ⟨T3, hT3⟩ := m3.blk; simp [World.cell?, hT3]
  have l3 : V3.cell? ⟨V2.heap.size, 0, none⟩ = some (.int .i64 st) := by simp [World.cell?, q3]
  have l4 : V3.cell? ⟨V2.heap.size, 1, none⟩ = some (.int .i64 nw) := by simp [World.cell?, q3]
  have hl1 := hlk V3.drew rfl
  have hl2 := hlk (V3.alloc (.cells #[.bool false] 175)).drew (((Below.refl V3.heap.size V3).alloc (Nat.le_refl _) _).drew.block mb m3.map.lt)
  have n1 : V.heap.size < V3.heap.size := (Array.getElem?_eq_some_iff.1 p3).1
  have n2 : TB < V3.heap.size := m3.tw.lt
  have n3 : V2.heap.size < V3.heap.size := (Array.getElem?_eq_some_iff.1 q3).1
  go_region
  all_goals
    clear hl1 hl2 hlk l1 l2 l3 l4 hV3
    obtain ⟨V4, hV4⟩ : ∃ V4, (V3.alloc (.cells #[.bool vv] 175)).drew = V4 := ⟨_, rfl⟩
    have b4 : Below V3.heap.size V3 V4 := by rw [← hV4]; exact ((Below.refl _ _).alloc (Nat.le_refl _) _).drew
    have r4 : V4.heap[V3.heap.size]? = some (.cells #[.bool vv] 175 (0, 0)) := by rw [← hV4]; exact heap_alloc_new V3 _
    have m4 := m3.keep b4
    have p4 := (b4.block _ n1).trans p3
    have q4 := (b4.block _ n3).trans q3
    have k04 := k03.trans (Tk.below b4 (by omega))
    have n4 : V3.heap.size < V4.heap.size := (Array.getElem?_eq_some_iff.1 r4).1
    have n5 : TB ≠ V3.heap.size := by omega
    have n6 : mb < V3.heap.size := m3.map.lt
    have n7 : V.heap.size ≤ V3.heap.size := k03.size
    rw [hV4]
    clear hV4 b4 m3 p3 q3 k03
    have l0 : V4.cell? ⟨V.heap.size, 0, none⟩ = some (.pointer (some ⟨TB, 0, none⟩)) := by simp [World.cell?, p4]
    have l5 : V4.cell? ⟨V3.heap.size, 0, none⟩ = some (.bool vv) := by simp [World.cell?, r4]
    cases kk
    · obtain ⟨T4, hT4⟩ := m4.blk
      have e0 : V4.cell? ⟨TB, 0, none⟩ = some (.int .i64 q) := by simp [World.cell?, hT4]
      have e1 : V4.cell? ⟨TB, 1, none⟩ = some (.int .i64 s) := by simp [World.cell?, hT4]
      have e2 : V4.cell? ⟨TB, 2, none⟩ = some (v) := by simp [World.cell?, hT4]
      have e3 : V4.cell? ⟨TB, 3, none⟩ = some (.int .i64 fr) := by simp [World.cell?, hT4]
      have e4 : V4.cell? ⟨TB, 4, none⟩ = some (.int .i64 b) := by simp [World.cell?, hT4]
      have e5 : V4.cell? ⟨TB, 5, none⟩ = some (.int .i64 q') := by simp [World.cell?, hT4]
      have e6 : V4.cell? ⟨TB, 6, none⟩ = some (.int .i64 s') := by simp [World.cell?, hT4]
      have e7 : V4.cell? ⟨TB, 7, none⟩ = some (v') := by simp [World.cell?, hT4]
      have e8 : V4.cell? ⟨TB, 8, none⟩ = some (.int .i64 fr') := by simp [World.cell?, hT4]
      have e9 : V4.cell? ⟨TB, 9, none⟩ = some (.int .i64 b') := by simp [World.cell?, hT4]
      have hO := hOk _ _ hV (k04.trans (Tk.drew V4 (by omega)))
      go_wp2
      go_region_held3 (fun w' => w'.cell? ⟨V.heap.size, 0, none⟩ = some (.pointer (some ⟨TB, 0, none⟩)) ∧ w'.cell? ⟨TB, 0, none⟩ = some (.int .i64 q) ∧ w'.cell? ⟨TB, 1, none⟩ = some (.int .i64 s) ∧ w'.cell? ⟨TB, 2, none⟩ = some (v) ∧ w'.cell? ⟨TB, 3, none⟩ = some (.int .i64 fr) ∧ w'.cell? ⟨TB, 4, none⟩ = some (.int .i64 b) ∧ w'.cell? ⟨TB, 5, none⟩ = some (.int .i64 q') ∧ w'.cell? ⟨TB, 6, none⟩ = some (.int .i64 s') ∧ w'.cell? ⟨TB, 7, none⟩ = some (v') ∧ w'.cell? ⟨TB, 8, none⟩ = some (.int .i64 fr') ∧ w'.cell? ⟨TB, 9, none⟩ = some (.int .i64 b')) (simp [go_sem, *]) (first | (go_at_call 126; refine (hM st nw _ hO).mono ?_; rintro e V5 ⟨rfl, hb5⟩; have nT : ∀ j, V5.cell? ⟨TB, j, none⟩ = V4.cell? ⟨TB, j, none⟩ := fun j => hb5.cell (p := ⟨TB, j, none⟩) (by show TB < V4.heap.size; omega); have nP : V5.cell? ⟨V.heap.size, 0, none⟩ = V4.cell? ⟨V.heap.size, 0, none⟩ := hb5.cell (p := ⟨V.heap.size, 0, none⟩) (by show V.heap.size < V4.heap.size; omega); have r5 : V5.heap[V3.heap.size]? = some (.cells #[.bool vv] 175 (0, 0)) := (hb5.block _ n4).trans r4; have l6 : V5.cell? ⟨V3.heap.size, 0, none⟩ = some (.bool vv) := (by simp [World.cell?, r5]); have l7 : V5.frozen? ⟨V3.heap.size, 0, none⟩ = false := (by simp [World.frozen?, r5])))
      have b5 : Below V4.heap.size V4 V5 := ((Below.refl V4.heap.size V4).drew).trans hb5
      have m5 := m4.keep b5
      have p5 := (b5.block _ (by omega)).trans p4
      have q5 := (b5.block _ (by omega)).trans q4
      have k05 := k04.trans (Tk.below b5 (by omega))
      obtain ⟨V6, hV6⟩ : ∃ V6, V5.setCell ⟨V3.heap.size, 0, none⟩ (.bool (f st nw)) = V6 := ⟨_, rfl⟩
      have r6 : V6.heap[V3.heap.size]? = some (.cells #[.bool (f st nw)] 175 (0, 0)) := by rw [← hV6, heap_setCell_same V5 _ 0 _ _ _ r5]; rfl
      have o6 : ∀ k, k ≠ V3.heap.size → V6.heap[k]? = V5.heap[k]? := fun k hk => by rw [← hV6]; exact heap_setCell_other V5 ⟨V3.heap.size, 0, none⟩ k _ hk
      have z6 : V6.heap.size = V5.heap.size := by rw [← hV6]; simp
      have k06 : Tk TB V V6 := ⟨by rw [← hV6]; exact Below.setCell k05.old (by show TB ≤ V3.heap.size; omega) _, by rw [z6]; exact k05.size, fun k cs T fr hk e => (o6 k (by have := (Array.getElem?_eq_some_iff.1 e).1; omega)).trans (k05.keep k cs T fr hk e)⟩
      rw [hV6]
      have m6 := m5.other (o6 TB n5) (o6 mb (by omega))
      have p6 := (o6 V.heap.size (by omega)).trans p5
      have q6 := (o6 V2.heap.size (by omega)).trans q5
      clear hV6 o6 z6 k05 p5 q5 m5 b5 hb5 nT nP r5 l6 l7 e0 e1 e2 e3 e4 e5 e6 e7 e8 e9 hT4 l0 l5 hO k04 p4 q4 m4 r4
      obtain ⟨V7, hu, u7, g7⟩ := (m6.map.of_block (w' := V6.drew) rfl).put moment_key Tryz.underlying122 st nw
      have x1 : V6.cell? ⟨V.heap.size, 0, none⟩ = some (.pointer (some ⟨TB, 0, none⟩)) := by simp [World.cell?, p6]
      have x2 : V6.cell? ⟨TB, 13, none⟩ = some (.map (some mb)) := by obtain ⟨T6, hT6⟩ := m6.blk; simp [World.cell?, hT6]
      have x3 : V6.cell? ⟨V2.heap.size, 0, none⟩ = some (.int .i64 st) := by simp [World.cell?, q6]
      have x4 : V6.cell? ⟨V2.heap.size, 1, none⟩ = some (.int .i64 nw) := by simp [World.cell?, q6]
      have x5 : V6.cell? ⟨V3.heap.size, 0, none⟩ = some (.bool (f st nw)) := by simp [World.cell?, r6]
      have r7 : V7.heap[V3.heap.size]? = some (.cells #[.bool (f st nw)] 175 (0, 0)) := (g7.block _ (Array.getElem?_eq_some_iff.1 r6).1 (fun e => by have := Option.some.inj e; omega)).trans r6
      have x6 : V7.cell? ⟨V3.heap.size, 0, none⟩ = some (.bool (f st nw)) := by simp [World.cell?, r7]
      have k07 : Tk TB V V7 := k06.trans ((Tk.drew V6 (Nat.le_of_lt m6.tw.lt)).trans (Tk.grown (m6.map.of_block (w' := V6.drew) rfl) m6.lt g7))
      have m7 : Tm f (twoC q s v fr b q' s' v' fr' b') TB mb V7 := by
        obtain ⟨T6, hT6⟩ := m6.blk
        exact ⟨m6.lt, ⟨T6, (g7.block TB m6.tw.lt (fun e => by have := Option.some.inj e; have := m6.lt; omega)).trans hT6⟩, u7⟩
      go_wp2
      go_region
      all_goals
        go_wp2
        go_ret
        exact ⟨rfl, m7.tw, k07⟩
    · obtain rfl := hkv rfl
      go_wp2
      go_ret
      exact ⟨rfl, m4.tw, k04⟩
end
end Go.Proofs.YtijcdikekgmfoaaGreatDoor

namespace Go.Proofs.YtijcdikekgmfoaaGreatDoor
open Go.RowKit

/-- At the first and the last of these ticks at which somebody may be in the box, all can turn. -/
def mayBx (f : Int → Int → Bool) (lo hi : Int) (k : Nat) (s : Bx) : Bool := decide (mnB hi s.out < mxB lo s.in_) || (f k (mxB lo s.in_) && f k (mnB hi s.out))
def mayTo (l : List Bx) (f : Int → Int → Bool) (lo hi : Int) (k : Nat) : Bool := (List.range k).all fun i => match l[i]? with | some s => mayBx f lo hi i s | none => true
theorem mayTo_succ {l : List Bx} {f : Int → Int → Bool} {lo hi : Int} {k : Nat} {s : Bx} (h : l[k]? = some s) : mayTo l f lo hi (k + 1) = (mayTo l f lo hi k && mayBx f lo hi k s) := by
  simp [mayTo, List.range_succ, List.all_append, h]
theorem mayTo_not {l : List Bx} {f : Int → Int → Bool} {lo hi : Int} {k : Nat} {s : Bx} (h : l[k]? = some s) (hf : mayBx f lo hi k s = false) : mayTo l f lo hi l.length = false := by
  rw [mayTo, List.all_eq_false]
  exact ⟨k, List.mem_range.2 (List.getElem?_eq_some_iff.1 h).1, by simp [h, hf]⟩
theorem Tw.lts {f : Int → Int → Bool} {X : List Value → Array Value} {TB : Nat} {V : World} (h : Tw f X TB V) : TB ≤ V.heap.size := Nat.le_of_lt h.lt

section
variable (f : Int → Int → Bool) (X : List Value → Array Value) (TB : Nat) (Ok : World → Prop)
set_option maxHeartbeats 4000000 in
set_option maxRecDepth 20000 in
theorem allMay_any (hOk : ∀ W W', Ok W → Tk TB W W' → Ok W')
    (hM : ∀ (st nw : Int) (W : World), Ok W → Tw f X TB W → Calls Tryz.prog 114 #[.pointer (some ⟨TB, 0, none⟩), .int .i64 st, .int .i64 nw] W fun e W' => e = .returned (.bool (f st nw)) ∧ Tw f X TB W' ∧ Tk TB W W')
    (a : Option Addr) (b o cap : Nat) (l : List Bx) (lo hi : Int) (V : World) (hV : Ok V) (h : Tw f X TB V) (hs : BoxesAt V a b o l) (hbT : l ≠ [] → b < TB) (hl : l.length ≤ 1048576) :
    Calls Tryz.prog 84 #[.pointer (some ⟨TB, 0, none⟩), .slice a l.length cap, .agg #[.int .i64 lo, .int .i64 hi]] V fun e V' => e = .returned (.bool (mayTo l f lo hi l.length)) ∧ Tw f X TB V' ∧ Tk TB V V' := by
  have hlt := h.lts
  go_enter Tryz.func84, Tryz.ntmps84
  go_wp2
  go_loopw [12] (fun v wr => ∃ k : Nat, k ≤ l.length ∧ v = .int .i64 k ∧ Tk TB V wr ∧ Tw f X TB wr ∧ wr.heap[V.heap.size]? = some (.cells #[.int .i64 lo, .int .i64 hi] 56 (0, 0)) ∧ mayTo l f lo hi k = true) (fun v _ => l.length - (intOf v).toNat)
  case atStart => exact ⟨0, Nat.zero_le _, rfl, Tk.alloc V _ hlt, h.keep ((Below.refl _ _).alloc (Nat.le_refl _) _), heap_alloc_new V _, rfl⟩
  case round =>
    obtain ⟨k, hk, rfl, K, T, P, hm⟩ := hrel
    by_cases hkl : k < l.length
    · obtain ⟨s, hsk⟩ : ∃ s, l[k]? = some s := ⟨l[k], List.getElem?_eq_getElem hkl⟩
      have hne : l ≠ [] := by intro e; subst e; simp at hkl
      obtain rfl := hs.here hne
      have hsz := K.size
      have hlw := T.lts
      have nP : V.heap.size < wr.heap.size := (Array.getElem?_eq_some_iff.1 P).1
      have nTB : TB ≠ V.heap.size := by have := h.lt; omega
      obtain ⟨c0, c1, c2, c3, c4, c5⟩ := (hs.below K.old hbT).six hsk
      have p0 : wr.cell? ⟨V.heap.size, 0, none⟩ = some (.int .i64 lo) := by simp [World.cell?, P]
      have p1 : wr.cell? ⟨V.heap.size, 1, none⟩ = some (.int .i64 hi) := by simp [World.cell?, P]
      have k0 : (0 : Int) ≤ (k : Int) := by omega
      have k1 : (k : Int) < (l.length : Int) := by omega
      have HS : Hid (l[k]? = some s) := hsk
      clear hsk
      go_wp2_with fail
      refine (meet_any _ _ _ _ _).mono ?_
      rintro e w2 ⟨rfl, hb2⟩
      have z2 := hb2.size
      rw [World.size_alloc] at z2
      have b2 : Below wr.heap.size wr w2 := ((Below.refl _ _).alloc (Nat.le_refl _) _).trans (hb2.mono (by simp))
      have K2 := K.trans (Tk.below b2 hlw)
      have T2 := T.keep b2
      clear c0 c1 c2 c3 c4 c5 p0 p1
      have P2 := (b2.block _ nP).trans P
      obtain ⟨L, hL⟩ : ∃ L, mxB lo s.in_ = L := ⟨_, rfl⟩
      obtain ⟨H, hH⟩ : ∃ H, mnB hi s.out = H := ⟨_, rfl⟩
      rw [hL, hH]
      have EB : Hid (mayBx f lo hi k s = (decide (H < L) || (f k L && f k H))) := by unfold Hid mayBx; rw [hL, hH]
      clear hL hH hb2 b2 P
      cases h1 : decide (H < L) with
      | true =>
        go_wp2_with fail
        refine (spanNo_val _ _ true _ h1).mono ?_
        rintro e w3 ⟨rfl, hb3⟩
        have b3 : Below w2.heap.size w2 w3 := ((Below.refl _ _).alloc (Nat.le_refl _) _).trans (hb3.mono (by simp))
        go_wp2
        go_roundw
        case rel => exact ⟨k + 1, by omega, by go_num, K2.trans (Tk.below b3 (by omega)), T2.keep b3, (b3.block _ (by omega)).trans P2, by rw [mayTo_succ HS.out, hm, EB.out, h1]; rfl⟩
        case measure => simp [intOf]; omega
      | false =>
        go_wp2_with fail
        refine (spanNo_val _ _ false _ h1).mono ?_
        rintro e w3 ⟨rfl, hb3⟩
        have b3 : Below w2.heap.size w2 w3 := ((Below.refl _ _).alloc (Nat.le_refl _) _).trans (hb3.mono (by simp))
        have R3 : w3.heap[w2.heap.size]? = some (.cells #[.int .i64 L, .int .i64 H] 56 (0, 0)) := (hb3.block _ (by simp)).trans (heap_alloc_new w2 _)
        have K3 := K2.trans (Tk.below b3 (by omega))
        have T3 := T2.keep b3
        have P3 := (b3.block _ (by omega)).trans P2
        have r0 : w3.cell? ⟨w2.heap.size, 0, none⟩ = some (.int .i64 L) := by simp [World.cell?, R3]
        clear hb3 b3
        have M1 := hM k L w3 (hOk _ _ hV K3) T3
        cases h2 : f k L with
        | false =>
          rw [h2] at M1
          go_wp2_with fail
          refine M1.mono ?_
          rintro e w4 ⟨rfl, T4, K4⟩
          go_wp2
          go_ret
          exact ⟨by rw [mayTo_not HS.out (by rw [EB.out, h1, h2]; rfl)]; rfl, T4, K3.trans K4⟩
        | true =>
          rw [h2] at M1
          go_wp2_with fail
          refine M1.mono ?_
          rintro e w4 ⟨rfl, T4, K4⟩
          have R4 := K4.keep _ _ _ _ (by omega) R3
          have P4 := K4.keep _ _ _ _ (fun e => nTB e.symm) P3
          have K04 := K3.trans K4
          have r1 : w4.cell? ⟨w2.heap.size, 1, none⟩ = some (.int .i64 H) := by simp [World.cell?, R4]
          have M2 := hM k H w4 (hOk _ _ hV K04) T4
          clear M1 r0 R3 P3 K3 T3 K4
          cases h3 : f k H with
          | false =>
            rw [h3] at M2
            go_wp2_with fail
            refine M2.mono ?_
            rintro e w5 ⟨rfl, T5, K5⟩
            go_wp2
            go_ret
            exact ⟨by rw [mayTo_not HS.out (by rw [EB.out, h1, h2, h3]; rfl)]; rfl, T5, K04.trans K5⟩
          | true =>
            rw [h3] at M2
            go_wp2_with fail
            refine M2.mono ?_
            rintro e w5 ⟨rfl, T5, K5⟩
            go_wp2
            go_roundw
            case rel => exact ⟨k + 1, by omega, by go_num, K04.trans K5, T5, K5.keep _ _ _ _ (fun e => nTB e.symm) P4, by rw [mayTo_succ HS.out, hm, EB.out, h1, h2, h3]; rfl⟩
            case measure => simp [intOf]; omega
    · obtain rfl : k = l.length := by omega
      go_wp2
      go_ret
      exact ⟨by rw [hm]; rfl, T, K⟩
end
end Go.Proofs.YtijcdikekgmfoaaGreatDoor

namespace Go.Proofs.YtijcdikekgmfoaaGreatDoor
open Go.RowKit

def upTo (fr : Int) (n : Nat) : List Int := (List.range n).map fun (j : Nat) => fr + (j : Int)
theorem upTo_length (fr : Int) (n : Nat) : (upTo fr n).length = n := by simp [upTo]
theorem upTo_succ (fr : Int) (n : Nat) : upTo fr (n + 1) = upTo fr n ++ [fr + (n : Int)] := by simp [upTo, List.range_succ]
theorem upTo_at (fr : Int) {n j : Nat} (h : j < n) : (upTo fr n)[j]? = some (fr + (j : Int)) := by simp [upTo, h]
def ticksL (l : List Bx) (fr : Int) : List Int := match l[0]?, l[l.length - 1]? with
  | some s, some t => if fr < s.in_ then [] else upTo fr (t.out - fr + 1).toNat
  | _, _ => []

set_option maxRecDepth 20000 in
set_option maxHeartbeats 2000000 in
theorem ticks_any (a : Option Addr) (b o cap : Nat) (l : List Bx) (fr : Int) (V : World) (hl : l.length ≤ 1048576) (hs : BoxesAt V a b o l) (hb : ∀ x ∈ l, 0 ≤ x.in_ ∧ x.out ≤ 9999) :
    Calls Tryz.prog 82 #[.slice a l.length cap, .int .i64 fr] V fun e V' => ∃ v, e = .returned v ∧ V'.ownsRow V.heap.size 3 1 v (ticksL l fr).length (intCells (ticksL l fr)) ∧ Below V.heap.size V V' := by
  obtain ⟨i0, hi, hz0, hz1, hz2⟩ := info_parts int_info
  cases hm : l.length with
  | zero =>
    obtain rfl := List.length_eq_zero_iff.1 hm
    clear hm
    go_enter Tryz.func82, Tryz.ntmps82
    go_wp2
    go_ret
    exact ⟨_, rfl, World.ownsRow_nil _ _ _ _, Below.refl _ _⟩
  | succ m =>
    obtain ⟨s, hs0⟩ : ∃ s, l[0]? = some s := ⟨l[0], List.getElem?_eq_getElem (by omega)⟩
    obtain ⟨t, ht0⟩ : ∃ t, l[m]? = some t := ⟨l[m], List.getElem?_eq_getElem (by omega)⟩
    have hne : l ≠ [] := by intro e; subst e; simp at hm
    have E : Hid (ticksL l fr = if fr < s.in_ then [] else upTo fr (t.out - fr + 1).toNat) := by unfold Hid ticksL; rw [hm, Nat.add_sub_cancel, hs0, ht0]
    obtain rfl := hs.here hne
    obtain ⟨_, _, _, _, c4, _⟩ := hs.six hs0
    obtain ⟨_, _, _, _, _, d5⟩ := hs.six ht0
    rw [Nat.zero_mul, Nat.add_zero] at c4
    have hbs := (hb s (List.mem_of_getElem? hs0)).1
    have hbt := (hb t (List.mem_of_getElem? ht0)).2
    have hbl := hs.lt hne
    rw [E.out]
    have hml : m + 1 ≤ 1048576 := by omega
    clear hs0 ht0 hne E hs hb hm hl
    by_cases hfr : fr < s.in_
    · rw [if_pos hfr]
      go_enter Tryz.func82, Tryz.ntmps82
      go_wp2
      go_ret
      exact ⟨_, rfl, World.ownsRow_nil _ _ _ _, Below.refl _ _⟩
    · rw [if_neg hfr]
      obtain ⟨n, hn⟩ : ∃ n, (t.out - fr + 1).toNat = n := ⟨_, rfl⟩
      rw [hn]
      go_enter Tryz.func82, Tryz.ntmps82
      go_wp2
      go_loopw [5, 6] (fun v u wr => ∃ k : Nat, k ≤ n ∧ u = .int .i64 (fr + (k : Int)) ∧ Below V.heap.size V wr ∧ wr.ownsRow V.heap.size 3 1 v k (intCells (upTo fr k))) (fun _ u _ => n - (intOf u - fr).toNat)
      case atStart => exact ⟨0, Nat.zero_le _, by simp, Below.refl _ _, World.ownsRow_nil _ _ _ _⟩
      case round =>
        obtain ⟨k, hk, rfl, hbw, hown⟩ := hrel
        have d5' : wr.cell? ⟨b, o + m * 6 + 5, none⟩ = some (.int .i64 t.out) := (hbw.cell (p := ⟨b, o + m * 6 + 5, none⟩) hbl).trans d5
        have hzz := hbw.size
        by_cases hkn : k < n
        · have hle : fr + (k : Int) ≤ t.out := by omega
          go_wp2_with (at_builtin; (refine wpList_append_own _ rfl _ _ 28 rfl V.heap.size 3 i0 (.int .i64 0) 1 8 Tryz.underlying28 hi hz0 hz1 hz2 rfl (by decide) _ k (intCells (upTo fr k)) rfl (hown.alloc _) ⟨wr.heap.size, 0, none⟩ 1 1 [.int .i64 (fr + (k : Int))] rfl rfl ?_ (by simp [Value.oneCell']) (by unfold maxLen; omega) (by omega) (by simp; omega) ?_); (intro j u hj; match j, hj with | 0, hj => (simp at hj; subst hj; simp [Addr.add, go_sem])); intro v' w3 hown' hgrow _)
          have hbel : Below V.heap.size wr w3 := ((Below.refl V.heap.size wr).alloc hzz _).grown hgrow (by simp; omega) (owns_base hown)
          refine ⟨⟨k + 1, by omega, by rw [show fr + (k : Int) + 1 = fr + ((k + 1 : Nat) : Int) by omega], hbw.trans hbel, ?_⟩, ?_⟩
          · rw [upTo_succ, intCells_snoc]
            exact hown'
          · simp only [intOf]
            omega
        · obtain rfl : k = n := by omega
          have hle : t.out < fr + (k : Int) := by omega
          go_wp2
          go_ret
          exact ⟨_, rfl, by rw [upTo_length]; exact hown, hbw⟩
end Go.Proofs.YtijcdikekgmfoaaGreatDoor

namespace Go.Proofs.YtijcdikekgmfoaaGreatDoor
open Go.RowKit

theorem turnTo_iff {tb : List Bx} {g : Nat → Bool} {t : Int} : turnTo tb g t tb.length = true ↔ ∀ i x, tb[i]? = some x → inB t x.in_ x.out = true → g i = true := by
  rw [turnTo, List.all_eq_true]
  constructor
  · intro h i x hx hi
    have := h i (List.mem_range.2 (List.getElem?_eq_some_iff.1 hx).1)
    simpa [hx, hi] using this
  · intro h i hi
    have hx := List.getElem?_eq_getElem (List.mem_range.1 hi)
    rw [hx]
    cases hb : inB t (tb[i]'(List.mem_range.1 hi)).in_ (tb[i]'(List.mem_range.1 hi)).out with
    | false => simp [hb]
    | true => simp [hb, h i _ hx hb]
theorem mayTo_iff {tb : List Bx} {f : Int → Int → Bool} {lo hi : Int} : mayTo tb f lo hi tb.length = true ↔ ∀ i x, tb[i]? = some x → mayBx f lo hi i x = true := by
  rw [mayTo, List.all_eq_true]
  constructor
  · intro h i x hx
    have := h i (List.mem_range.2 (List.getElem?_eq_some_iff.1 hx).1)
    simpa [hx] using this
  · intro h i hi
    have hx := List.getElem?_eq_getElem (List.mem_range.1 hi)
    rw [hx]
    exact h i _ hx
section
variable {tb : List Bx} {f : Int → Int → Bool} {f0 t : Int}
theorem may_all (hgap : ∀ k t1 t2 t3, f k t1 = true → f k t3 = true → t1 ≤ t2 → t2 ≤ t3 → f k t2 = true) (h : mayTo tb f f0 t tb.length = true) {u : Int} (h1 : f0 ≤ u) (h2 : u ≤ t) : turnTo tb (fun k => f k u) u tb.length = true := by
  refine turnTo_iff.2 fun i x hx hi => ?_
  have hm := mayTo_iff.1 h i x hx
  rw [inB_iff] at hi
  unfold mayBx at hm
  simp only [Bool.or_eq_true, Bool.and_eq_true, decide_eq_true_eq] at hm
  have m1 := mxB_le f0 x.in_
  have m2 := mnB_le t x.out
  have m3 : mxB f0 x.in_ ≤ u := by unfold mxB; split <;> omega
  have m4 : u ≤ mnB t x.out := by unfold mnB; split <;> omega
  rcases hm with hm | ⟨ha, hc⟩
  · omega
  · exact hgap _ _ _ _ ha hc m3 m4
theorem all_may (h : ∀ u, f0 ≤ u → u ≤ t → turnTo tb (fun k => f k u) u tb.length = true) : mayTo tb f f0 t tb.length = true := by
  refine mayTo_iff.2 fun i x hx => ?_
  unfold mayBx
  simp only [Bool.or_eq_true, Bool.and_eq_true, decide_eq_true_eq]
  have m1 := mxB_le f0 x.in_
  have m2 := mnB_le t x.out
  by_cases hc : mnB t x.out < mxB f0 x.in_
  · exact Or.inl hc
  · right
    constructor
    · exact turnTo_iff.1 (h (mxB f0 x.in_) (by omega) (by omega)) i x hx ((inB_iff _ _ _).2 (by omega))
    · exact turnTo_iff.1 (h (mnB t x.out) (by omega) (by omega)) i x hx ((inB_iff _ _ _).2 (by omega))

/-- One behind the other, without a gap. -/
structure Row (tb : List Bx) : Prop where
  mono : ∀ (i j : Nat) (x y : Bx), tb[i]? = some x → tb[j]? = some y → i ≤ j → x.in_ ≤ y.in_ ∧ x.out ≤ y.out
  gap : ∀ (i : Nat) (x y : Bx), tb[i]? = some x → tb[i + 1]? = some y → y.in_ ≤ x.out + 1
theorem Row.cover (R : Row tb) {s : Bx} (hs : tb[0]? = some s) (h1 : s.in_ ≤ t) : ∀ (i : Nat) (x : Bx), tb[i]? = some x → t ≤ x.out → ∃ y ∈ tb, inB t y.in_ y.out = true
  | 0, x, hx, h => by
    obtain rfl := Option.some.inj (hs.symm.trans hx)
    exact ⟨s, List.mem_of_getElem? hx, (inB_iff _ _ _).2 ⟨h1, h⟩⟩
  | i + 1, x, hx, h => by
    have hi := (List.getElem?_eq_some_iff.1 hx).1
    have hy := List.getElem?_eq_getElem (show i < tb.length by omega)
    by_cases hc : t ≤ (tb[i]'(by omega)).out
    · exact R.cover hs h1 i _ hy hc
    · have := R.gap i _ x hy hx
      exact ⟨x, List.mem_of_getElem? hx, (inB_iff _ _ _).2 ⟨by omega, h⟩⟩
theorem allT_not {g : Nat → Bool} (h : ∀ x ∈ tb, inB t x.in_ x.out = false) : allT tb g t = false := by
  unfold allT
  rw [Bool.and_eq_false_iff]
  right
  rw [List.any_eq_false]
  intro x hx
  simp [h x hx]
theorem turn_found (R : Row tb) (hgap : ∀ k t1 t2 t3, f k t1 = true → f k t3 = true → t1 ≤ t2 → t2 ≤ t3 → f k t2 = true) {k : Nat} (hk : k ≤ (ticksL tb f0).length)
    (h1 : ∀ j, j + 1 = k → mayTo tb f f0 ((ticksL tb f0).getD j 0) tb.length = true) (h2 : k < (ticksL tb f0).length → mayTo tb f f0 ((ticksL tb f0).getD k 0) tb.length = false) :
    TurnIs (fun t => allT tb (fun k => f k t) t) f0 (if k = 0 then -1 else (ticksL tb f0).getD (k - 1) 0) := by
  cases htb : tb.length with
  | zero =>
    obtain rfl := List.length_eq_zero_iff.1 htb
    have hk0 : k = 0 := by simpa [ticksL] using hk
    exact ⟨0, fun j h => by omega, allT_not (by simp), by rw [if_pos hk0, if_pos rfl]⟩
  | succ m =>
    obtain ⟨s, hs⟩ : ∃ s, tb[0]? = some s := ⟨tb[0], List.getElem?_eq_getElem (by omega)⟩
    obtain ⟨e, he⟩ : ∃ e, tb[m]? = some e := ⟨tb[m], List.getElem?_eq_getElem (by omega)⟩
    have ET : ticksL tb f0 = if f0 < s.in_ then [] else upTo f0 (e.out - f0 + 1).toNat := by unfold ticksL; rw [htb, Nat.add_sub_cancel, hs, he]
    by_cases hf : f0 < s.in_
    · rw [ET, if_pos hf] at hk
      have hk0 : k = 0 := by simpa using hk
      refine ⟨0, fun j h => by omega, allT_not (fun x hx => ?_), by rw [if_pos hk0, if_pos rfl]⟩
      obtain ⟨i, hi⟩ := List.mem_iff_getElem?.1 hx
      have := (R.mono 0 i s x hs hi (by omega)).1
      cases hb : inB (f0 + ((0 : Nat) : Int)) x.in_ x.out with
      | false => rfl
      | true => rw [inB_iff] at hb; omega
    · rw [ET, if_neg hf] at hk h1 h2 ⊢
      obtain ⟨n, hn⟩ : ∃ n, (e.out - f0 + 1).toNat = n := ⟨_, rfl⟩
      rw [hn] at hk h1 h2 ⊢
      rw [upTo_length] at hk h2
      have at_ : ∀ j, j < n → (upTo f0 n).getD j 0 = f0 + (j : Int) := fun j hj => by rw [List.getD_eq_getElem?_getD, upTo_at _ hj]; rfl
      have any_ : ∀ j : Nat, j < n → (tb.any fun x => inB (f0 + (j : Int)) x.in_ x.out) = true := fun j hj => by
        obtain ⟨y, hy, hi⟩ := R.cover hs (t := f0 + (j : Int)) (by omega) m e he (by omega)
        exact List.any_eq_true.2 ⟨y, hy, hi⟩
      have up : ∀ j : Nat, j < k → allT tb (fun i => f i (f0 + (j : Int))) (f0 + (j : Int)) = true := fun j hj => by
        have hm := h1 (k - 1) (by omega)
        rw [at_ (k - 1) (by omega)] at hm
        unfold allT
        rw [may_all hgap hm (by omega) (by omega), any_ j (by omega)]
        rfl
      refine ⟨k, up, ?_, ?_⟩
      · by_cases hkn : k < n
        · have hm := h2 hkn
          rw [at_ k hkn] at hm
          show allT tb (fun i => f i (f0 + (k : Int))) (f0 + (k : Int)) = false
          cases hc : turnTo tb (fun i => f i (f0 + (k : Int))) (f0 + (k : Int)) tb.length with
          | false => unfold allT; rw [hc]; rfl
          | true =>
            rw [all_may (fun u hu1 hu2 => ?_)] at hm
            · cases hm
            · by_cases hu : u = f0 + (k : Int)
              · rw [hu]; exact hc
              · obtain ⟨j, hj⟩ : ∃ j : Nat, u = f0 + (j : Int) := ⟨(u - f0).toNat, by omega⟩
                have := up j (by omega)
                unfold allT at this
                rw [Bool.and_eq_true] at this
                rw [hj]
                exact this.1
        · refine allT_not (fun x hx => ?_)
          obtain ⟨i, hi⟩ := List.mem_iff_getElem?.1 hx
          have := (R.mono i m x e hi he (by have := (List.getElem?_eq_some_iff.1 hi).1; omega)).2
          cases hb : inB (f0 + (k : Int)) x.in_ x.out with
          | false => rfl
          | true => rw [inB_iff] at hb; omega
      · by_cases hk0 : k = 0
        · rw [if_pos hk0, if_pos hk0]
        · rw [if_neg hk0, if_neg hk0, at_ (k - 1) (by omega)]
          omega
end
section
variable {q s fr b q' s' fr' b' : Int} {l l' : List Stp}
theorem spans_mono (hf : flyB q s fr b l = true) {i : Nat} : ∀ d : Nat, i + d ≤ l.length → (spanAt q s fr b l l.length i).1 ≤ (spanAt q s fr b l l.length (i + d)).1 ∧ (spanAt q s fr b l l.length i).2 ≤ (spanAt q s fr b l l.length (i + d)).2
  | 0, _ => ⟨Int.le_refl _, Int.le_refl _⟩
  | d + 1, h => by
    obtain ⟨hp, hpf, _⟩ := flyL_at hf
    have hm : ∀ k, q ≤ mostB s l k := fun k => most_quick hp k
    have a := spans_mono hf (i := i) d (by omega)
    have c1 := (first_keeps hm hpf).2 (i + d) (Nat.zero_le _) (by omega)
    have c2 := (last_keeps hm hpf).2 (i + d) (Nat.zero_le _) (by omega)
    have kr := kind_range hp
    dsimp only at c1 c2
    rw [show i + (d + 1) = i + d + 1 by omega]
    omega
theorem tube_row (q s fr b : Int) (l : List Stp) : Row (tubeL q s fr b l) where
  mono i j x y hx hy hij := by
    obtain ⟨hf, h1, e1, e2⟩ := tube_box hx
    obtain ⟨_, h3, e3, e4⟩ := tube_box hy
    have a := spans_mono hf (i := i) (j - i) (by omega)
    have c := spans_mono hf (i := i + 1) (j - i) (by omega)
    rw [show i + (j - i) = j by omega] at a
    rw [show i + 1 + (j - i) = j + 1 by omega] at c
    omega
  gap i x y hx hy := by
    obtain ⟨hf, h1, e1, e2⟩ := tube_box hx
    obtain ⟨_, h3, e3, e4⟩ := tube_box hy
    have := fly_win hf (k := i + 1) (by omega)
    omega
theorem tube_bounds (q s fr b : Int) (l : List Stp) : ∀ x ∈ tubeL q s fr b l, 0 ≤ x.in_ ∧ x.out ≤ 9999 := fun x hx => by
  obtain ⟨k, hk⟩ := List.mem_iff_getElem?.1 hx
  obtain ⟨hf, hkl, e1, e2⟩ := tube_box hk
  have w1 := fly_win hf (k := k) (by omega)
  have w2 := fly_win hf (k := k + 1) (by omega)
  obtain ⟨hp, _, _⟩ := flyL_at hf
  have b1 := bounds_ok hp k
  have b2 := bounds_ok hp (k + 1)
  omega
end
end Go.Proofs.YtijcdikekgmfoaaGreatDoor

namespace Go.Proofs.YtijcdikekgmfoaaGreatDoor
open Go.RowKit

theorem seenA_not {q s fr b st nw : Int} {l : List Stp} (h : (seenA q s fr b l st nw).ok = false) : seenA q s fr b l st nw = .no := by
  unfold seenA at *
  split at h
  · rename_i hc
    rw [if_pos hc]
    unfold canA at *
    split at h
    · cases h
    · rename_i h2
      rw [if_neg h2]
  · rename_i hc
    rw [if_neg hc]
theorem turnTo_miss {tb : List Bx} {g : Nat → Bool} {t : Int} {k : Nat} {s : Bx} (h : tb[k]? = some s) (hi : inB t s.in_ s.out = false) : turnTo tb g t (k + 1) = turnTo tb g t k := by
  rw [turnTo_succ h, hi]; simp
theorem turnTo_hit {tb : List Bx} {g : Nat → Bool} {t : Int} {k : Nat} {s : Bx} (h : tb[k]? = some s) (hg : g k = true) : turnTo tb g t (k + 1) = turnTo tb g t k := by
  rw [turnTo_succ h, hg]; simp
theorem allT_no {tb : List Bx} {g : Nat → Bool} {t : Int} {k : Nat} {s : Bx} (h : tb[k]? = some s) (hi : inB t s.in_ s.out = true) (hf : g k = false) : allT tb g t = false := by
  unfold allT
  rw [turnTo_not h hi hf]; rfl

set_option maxHeartbeats 4000000 in
set_option maxRecDepth 20000 in
theorem wfAll_any (hI : SpansSaid) (hR : RestISaid) (q s fr b : Int) (a : Option Addr) (b0 o cap : Nat) (l : List Stp) (q' s' fr' b' : Int) (a' : Option Addr) (b0' o' cap' : Nat) (l' : List Stp) (ta : Option Addr) (tg to_ tc : Nat) (tb : List Bx) (nw : Int) (p : Addr) (w : World) (hl : l.length ≤ 1048576) (hl' : l'.length ≤ 1048576) (htl : tb.length ≤ 1048576) (hs : StepsAt w a b0 o l) (hs' : StepsAt w a' b0' o' l') (hcap : l.length ≤ cap) (hcap' : l'.length ≤ cap') (ht : BoxesAt w ta tg to_ tb) (hg : Sent w p) :
    Calls Tryz.prog 32 #[.agg #[.int .i64 q, .int .i64 s, .slice a l.length cap, .int .i64 fr, .int .i64 b], .agg #[.int .i64 q', .int .i64 s', .slice a' l'.length cap', .int .i64 fr', .int .i64 b'], .slice ta tb.length tc, .int .i64 nw] w
      fun e w' => e = .returned (.bool (allT tb (fun k => mayB q s fr b l q' s' fr' b' l' (k : Int) nw) nw)) ∧ Below w.heap.size w w' := by
  have T0 := TwoP.new w q s fr b (.slice a l.length cap) q' s' fr' b' (.slice a' l'.length cap')
  obtain ⟨g, hgd⟩ : ∃ g : Nat → Bool, (fun k : Nat => mayB q s fr b l q' s' fr' b' l' (k : Int) nw) = g := ⟨_, rfl⟩
  rw [hgd]
  go_enter Tryz.func32, Tryz.ntmps32
  go_wp2
  go_loopw [9, 10] (fun u v wr => ∃ k : Nat, k ≤ tb.length ∧ v = .int .i64 k ∧ u = .bool ((tb.take k).any fun x => inB nw x.in_ x.out) ∧ TwoP w wr q s fr b (.slice a l.length cap) q' s' fr' b' (.slice a' l'.length cap') ∧ turnTo tb g nw k = true) (fun _ v _ => tb.length - (intOf v).toNat)
  case atStart => exact ⟨0, Nat.zero_le _, rfl, rfl, T0, rfl⟩
  case round =>
    obtain ⟨k, hk, rfl, rfl, T1, hm⟩ := hrel
    by_cases hkl : k < tb.length
    · obtain ⟨x, hx⟩ : ∃ x, tb[k]? = some x := ⟨tb[k], List.getElem?_eq_getElem hkl⟩
      have hne : tb ≠ [] := by intro e; subst e; simp at hkl
      obtain rfl := ht.here hne
      obtain ⟨_, _, _, _, c4, c5⟩ := (ht.below T1.old ht.lt).six hx
      have k0 : (0 : Int) ≤ (k : Int) := by omega
      have k1 : (k : Int) < (tb.length : Int) := by omega
      have HX : Hid (tb[k]? = some x) := hx
      have HM : Hid (turnTo tb g nw k = true) := hm
      have HU : Hid ((tb.take (k + 1)).any (fun x => inB nw x.in_ x.out) = ((tb.take k).any (fun x => inB nw x.in_ x.out) || inB nw x.in_ x.out)) := any_take tb _ hx
      clear hx hm T0
      obtain ⟨U, hU⟩ : ∃ U, (tb.take k).any (fun x => inB nw x.in_ x.out) = U := ⟨_, rfl⟩
      rw [hU] at HU ⊢
      clear hU
      by_cases h1 : nw < x.in_
      · have hin : inB nw x.in_ x.out = false := by cases hb : inB nw x.in_ x.out with | false => rfl | true => rw [inB_iff] at hb; omega
        have HI : Hid (inB nw x.in_ x.out = false) := hin
        clear hin
        go_wp2
        go_roundw
        case rel => exact ⟨k + 1, by omega, by go_num, by rw [HU.out, HI.out, Bool.or_false], T1, by rw [turnTo_miss HX.out HI.out]; exact HM.out⟩
        case measure => simp [intOf]; omega
      · by_cases h2 : x.out < nw
        · have hin : inB nw x.in_ x.out = false := by cases hb : inB nw x.in_ x.out with | false => rfl | true => rw [inB_iff] at hb; omega
          have HI : Hid (inB nw x.in_ x.out = false) := hin
          clear hin
          go_wp2
          go_roundw
          case rel => exact ⟨k + 1, by omega, by go_num, by rw [HU.out, HI.out, Bool.or_false], T1, by rw [turnTo_miss HX.out HI.out]; exact HM.out⟩
          case measure => simp [intOf]; omega
        · have hin : inB nw x.in_ x.out = true := (inB_iff _ _ _).2 (by omega)
          have HI : Hid (inB nw x.in_ x.out = true) := hin
          clear hin
          obtain ⟨⟨p0, p1, p2, p3, p4⟩, _⟩ := T1.pa.cells
          go_wp2_with fail
          obtain ⟨n, hn⟩ : ∃ n, sharedN q s l q' s' l' = n := ⟨_, rfl⟩
          obtain ⟨f, hf⟩ : ∃ f : Int → Bool, ∀ en, (restA q' s' fr' b' l' (k : Int) en nw).ok = f en := ⟨fun en => (restA q' s' fr' b' l' (k : Int) en nw).ok, fun _ => rfl⟩
          have hsA := flySeenI_any hI q s fr b (k : Int) nw a b0 o cap l p wr hl (hs.below T1.old hs.lt) hcap (hg.below T1.old)
          have hA1 := @seenA_ok q s fr b l (k : Int) nw
          have hA0 := @seenA_not q s fr b (k : Int) nw l
          have hG : g k = (decide ((k : Int) < (n : Int)) && (seenA q s fr b l (k : Int) nw).ok && (f (firstOf (seenA q s fr b l (k : Int) nw)).1 && f (firstOf (seenA q s fr b l (k : Int) nw)).2)) := by
            rw [← hgd, ← hf, ← hf, ← hn]; rfl
          have hE : g k = true → ∀ e, inP e (firstOf (seenA q s fr b l (k : Int) nw)) → f e = true := fun h e he => by
            rw [← hf]; rw [← hgd] at h; exact may_each h he
          have SH := fun W (hW : Below wr.heap.size wr W) => sharedI_any q s fr b a b0 o cap l q' s' fr' b' a' b0' o' cap' l' W hl hl' (hs.below (T1.below hW).old hs.lt) (hs'.below (T1.below hW).old hs'.lt)
          have RS := fun (en : Int) W (hW : Below wr.heap.size wr W) => hR q' s' fr' b' (k : Int) en nw a' b0' o' cap' l' p W hl' (hs'.below (T1.below hW).old hs'.lt) hcap' (hg.below (T1.below hW).old)
          rw [hn] at SH
          have HF : Hid (∀ en, (restA q' s' fr' b' l' (k : Int) en nw).ok = f en) := hf
          have HSH : Hid _ := SH
          have HRS : Hid _ := RS
          generalize seenA q s fr b l (k : Int) nw = A at hsA hA1 hA0 hG hE
          have HG : Hid (g k = (decide ((k : Int) < (n : Int)) && A.ok && (f (firstOf A).1 && f (firstOf A).2))) := hG
          have HE : Hid (g k = true → ∀ e, inP e (firstOf A) → f e = true) := hE
          clear hG hE hf hgd SH RS hn
          refine hsA.mono ?_
          rintro e w2 ⟨v2, rfl, ho2, hb2⟩
          obtain ⟨a2, j2, c2, hv2, hs2⟩ := steps_of ho2
          subst hv2
          have T2 := T1.below hb2
          have al : Below w2.heap.size w2 (w2.alloc (.cells #[.int .i64 A.q, .int .i64 A.s, .slice a2 A.l.length c2, .int .i64 A.fr, .int .i64 A.b] 27)) := (Below.refl _ _).alloc (Nat.le_refl _) _
          have X2 := PathAt.new w2 A.q A.s A.fr A.b (.slice a2 A.l.length c2)
          have T3 := T2.below al
          have b13 : Below wr.heap.size wr (w2.alloc (.cells #[.int .i64 A.q, .int .i64 A.s, .slice a2 A.l.length c2, .int .i64 A.fr, .int .i64 A.b] 27)) := hb2.trans (al.mono hb2.size)
          have hs3 := hs2.alloc (.cells #[.int .i64 A.q, .int .i64 A.s, .slice a2 A.l.length c2, .int .i64 A.fr, .int .i64 A.b] 27)
          clear p0 p1 p2 p3 p4 c4 c5 T2 hsA ho2 hs2 al
          obtain ⟨⟨y0, y1, y2, y3, y4⟩, _⟩ := X2.cells
          cases hok : A.ok with
          | false =>
            have hC := hI A.q A.s A.fr A.b a2 j2 0 c2 A.l (w2.alloc (.cells #[.int .i64 A.q, .int .i64 A.s, .slice a2 A.l.length c2, .int .i64 A.fr, .int .i64 A.b] 27)) (by rw [hA0 hok]; simp [Ans.no]) hs3
            have e0 : flyL A.q A.s A.fr A.b A.l = [] := by rw [hA0 hok]; rfl
            have e1 : flyB A.q A.s A.fr A.b A.l = false := by rw [hA0 hok]; rfl
            rw [e0, e1] at hC
            go_wp2_with fail
            refine hC.mono ?_
            rintro e w4 ⟨v4, rfl, ho4, hb4⟩
            obtain ⟨vo, vc, rfl⟩ : ∃ vo vc, v4 = .slice vo 0 vc := by
              rcases ho4.2 with ⟨rfl, _⟩ | ⟨_, _, _, rfl, _⟩
              · exact ⟨_, _, rfl⟩
              · exact ⟨_, _, rfl⟩
            have T4 := T3.below hb4
            have b14 := b13.trans (hb4.mono b13.size)
            have gk : g k = false := by rw [HG.out, hok, Bool.and_false, Bool.false_and]
            have HA : Hid (allT tb g nw = false) := allT_no HX.out HI.out gk
            clear y0 y1 y2 y3 y4 hC hb4 T3 X2 hs3 ho4 e0 e1 gk
            obtain ⟨⟨p0, p1, p2, p3, p4⟩, _⟩ := T4.pa.cells
            obtain ⟨⟨r0, r1, r2, r3, r4⟩, _⟩ := T4.pb.cells
            go_wp2_with fail
            refine (HSH.out _ b14).mono ?_
            rintro e w5 ⟨rfl, hb5⟩
            have T5 := T4.below hb5
            clear p0 p1 p2 p3 p4 r0 r1 r2 r3 r4 T4 hb5
            by_cases hnk : (n : Int) ≤ (k : Int)
            · go_wp2
              go_ret
              exact ⟨by rw [HA.out]; rfl, T5.old⟩
            · go_wp2
              go_ret
              exact ⟨by rw [HA.out]; rfl, T5.old⟩
          | true =>
            obtain ⟨hpA, hsb⟩ := hA1 hok
            have hAl := path_len hpA
            have hfl : flyB A.q A.s A.fr A.b A.l = true := by unfold flyB; rw [hpA, hsb]; rfl
            have hfL : flyL A.q A.s A.fr A.b A.l = spansL A.q A.s A.fr A.b A.l := by unfold flyL; rw [hpA]; rfl
            have hsl : (spansL A.q A.s A.fr A.b A.l).length = A.l.length + 1 := by unfold spansL; rw [if_pos hsb]; simp
            have hC := hI A.q A.s A.fr A.b a2 j2 0 c2 A.l (w2.alloc (.cells #[.int .i64 A.q, .int .i64 A.s, .slice a2 A.l.length c2, .int .i64 A.fr, .int .i64 A.b] 27)) (by omega) hs3
            rw [hfl, hfL, hsl] at hC
            have hf1 := spans_first hsb
            have fw := fly_win hfl (k := 0) (Nat.zero_le _)
            have bo := bounds_ok hpA 0
            obtain ⟨y, hy⟩ : ∃ y, firstOf A = y := ⟨_, rfl⟩
            rw [hy] at HG HE
            unfold firstOf at hy
            rw [hy] at hf1
            have fw' : lowB A.fr A.l 0 ≤ y.1 ∧ y.1 ≤ y.2 ∧ y.2 ≤ highB A.b A.l 0 := by rw [← hy]; exact fw
            have yr : 0 ≤ y.1 ∧ y.1 ≤ y.2 ∧ y.2 ≤ 10000 := by omega
            clear fw fw' bo
            obtain ⟨y1, y2⟩ := y
            go_wp2_with fail
            refine hC.mono ?_
            rintro e w4 ⟨v4, rfl, ho4, hb4⟩
            obtain ⟨g3, k3, rfl, _, hg3⟩ := owns_some ho4 (by omega)
            have l0 := (ho4.cellAt 0 (by omega)).trans (spanCells_two hf1).1
            have l1 := (ho4.cellAt 1 (by omega)).trans (spanCells_two hf1).2
            have T4 := T3.below hb4
            have b14 := b13.trans (hb4.mono b13.size)
            clear hC hb4 T3 X2 hs3 ho4 hy hf1 hsl hfl hfL hpA hsb hA1 hA0
            obtain ⟨⟨p0, p1, p2, p3, p4⟩, _⟩ := T4.pa.cells
            obtain ⟨⟨r0, r1, r2, r3, r4⟩, _⟩ := T4.pb.cells
            go_wp2_with fail
            refine (HSH.out _ b14).mono ?_
            rintro e w5 ⟨rfl, hb5⟩
            have T5 := T4.below hb5
            have b15 := b14.trans (hb5.mono b14.size)
            have m0 : w5.cell? ⟨g3, 0, none⟩ = some (.int .i64 y1) := (hb5.cell (p := ⟨g3, 0, none⟩) hg3).trans l0
            have m1 : w5.cell? ⟨g3, 1, none⟩ = some (.int .i64 y2) := (hb5.cell (p := ⟨g3, 1, none⟩) hg3).trans l1
            have g5 : g3 < w5.heap.size := Nat.lt_of_lt_of_le hg3 hb5.size
            clear p0 p1 p2 p3 p4 r0 r1 r2 r3 r4 T4 hb5 l0 l1 hg3 HSH
            have al0 : (0 : Int) < ((A.l.length + 1 : Nat) : Int) := by omega
            by_cases hnk : (n : Int) ≤ (k : Int)
            · have gk : g k = false := by rw [HG.out, show decide ((k : Int) < (n : Int)) = false by simp; omega]; rfl
              have HA : Hid (allT tb g nw = false) := allT_no HX.out HI.out gk
              clear gk
              go_wp2
              go_ret
              exact ⟨by rw [HA.out]; rfl, T5.old⟩
            · have hg2 : g k = (f y1 && f y2) := by rw [HG.out, hok, show decide ((k : Int) < (n : Int)) = true by simp; omega]; rfl
              have HG2 : Hid (g k = (f y1 && f y2)) := hg2
              clear hg2 HG
              obtain ⟨yr0, yr1, yr2⟩ := yr
              have hz0 : ((A.l.length : Int) + 1 == 0) = false := by rw [beq_eq_false_iff_ne]; omega
              have hnk2 : ¬ n ≤ k := by omega
              go_wp2
              go_loopw [15] (fun v wr' => ∃ t, v = .int .i64 t ∧ y1 ≤ t ∧ Below w5.heap.size w5 wr' ∧ Hid (t = y1 ∨ f y1 = true)) (fun v _ => (y2 + 1 - intOf v).toNat)
              case atStart => exact ⟨y1, rfl, Int.le_refl _, Below.refl _ _, (Or.inl rfl : y1 = y1 ∨ f y1 = true)⟩
              case round =>
                obtain ⟨t, rfl, ht1, hbw, ho⟩ := hrel
                have T6 := T5.below hbw
                have b16 := b15.trans (hbw.mono b15.size)
                have q0 : wr.cell? ⟨g3, 0, none⟩ = some (.int .i64 y1) := (hbw.cell (p := ⟨g3, 0, none⟩) g5).trans m0
                have q1 : wr.cell? ⟨g3, 1, none⟩ = some (.int .i64 y2) := (hbw.cell (p := ⟨g3, 1, none⟩) g5).trans m1
                obtain ⟨⟨r0, r1, r2, r3, r4⟩, _⟩ := T6.pb.cells
                have zX : w.heap.size + 1 < wr.heap.size := T6.pb.lt
                have zg : g3 < wr.heap.size := Nat.lt_of_lt_of_le g5 hbw.size
                by_cases hty : t ≤ y2
                · have hC := HRS.out t wr b16
                  have hCo := HF.out t
                  generalize restA q' s' fr' b' l' (k : Int) t nw = R at hC hCo
                  go_wp2_with fail
                  refine hC.mono ?_
                  rintro e w6 ⟨v6, rfl, ho6, hb6⟩
                  obtain ⟨a6, j6, c6, hv6, _⟩ := steps_of ho6
                  subst hv6
                  rw [hCo]
                  have s0 : w6.cell? ⟨g3, 0, none⟩ = some (.int .i64 y1) := (hb6.cell (p := ⟨g3, 0, none⟩) zg).trans q0
                  have s1 : w6.cell? ⟨g3, 1, none⟩ = some (.int .i64 y2) := (hb6.cell (p := ⟨g3, 1, none⟩) zg).trans q1
                  have zg6 : g3 < w6.heap.size := Nat.lt_of_lt_of_le zg hb6.size
                  clear hC hCo ho6 r0 r1 r2 r3 r4 q0 q1
                  cases hft : f t with
                  | false =>
                    have HA : Hid (allT tb g nw = false) := allT_no HX.out HI.out (by
                      cases hgk : g k with
                      | false => rfl
                      | true => have := HE.out hgk t ⟨ht1, hty⟩; rw [hft] at this; cases this)
                    have T7 := T6.below hb6
                    go_wp2
                    go_ret
                    exact ⟨by rw [HA.out]; rfl, T7.old.alloc T7.old.size _⟩
                  | true =>
                    have ho2 : Hid (f y1 = true) := by
                      rcases ho.out with h | h
                      · rw [h] at hft; exact hft
                      · exact h
                    go_wp2
                    go_region
                    all_goals
                      go_wp2
                      refine ⟨⟨_, rfl, by omega, ((hbw.trans (hb6.mono hbw.size)).alloc (Nat.le_trans hbw.size hb6.size) _).drew, (Or.inr ho2.out : _ ∨ f y1 = true)⟩, ?_⟩
                      simp only [intOf]
                      omega
                · have hf1 : f y1 = true := by
                    rcases ho.out with h | h
                    · omega
                    · exact h
                  have HF1 : Hid (f y1 = true) := hf1
                  have hC := HRS.out y2
                  have hCo := HF.out y2
                  generalize restA q' s' fr' b' l' (k : Int) y2 nw = R at hC hCo
                  have HC : Hid _ := hC
                  clear hC hf1 hok
                  go_wp2
                  go_region_held3 (fun w' => w'.cell? ⟨w.heap.size + 1, 0, none⟩ = some (.int .i64 q') ∧ w'.cell? ⟨w.heap.size + 1, 1, none⟩ = some (.int .i64 s') ∧ w'.cell? ⟨w.heap.size + 1, 2, none⟩ = some (.slice a' l'.length cap') ∧ w'.cell? ⟨w.heap.size + 1, 3, none⟩ = some (.int .i64 fr') ∧ w'.cell? ⟨w.heap.size + 1, 4, none⟩ = some (.int .i64 b') ∧ w'.cell? ⟨g3, 1, none⟩ = some (.int .i64 y2))
                    (simp [go_sem, World.cell?_alloc_lt, *])
                    (first
                      | (go_at_call 18; refine (HC.out wr.drew b16.drew).mono ?_; rintro e w6 ⟨v6, rfl, ho6, hb6⟩; obtain ⟨a6, j6, c6, rfl, _⟩ := steps_of ho6; have B6 : Below wr.heap.size wr w6 := (Below.refl wr.heap.size wr).drew.trans hb6; have nX : ∀ j, w6.cell? ⟨w.heap.size + 1, j, none⟩ = wr.cell? ⟨w.heap.size + 1, j, none⟩ := fun j => B6.cell (p := ⟨w.heap.size + 1, j, none⟩) zX; have nG : ∀ j, w6.cell? ⟨g3, j, none⟩ = wr.cell? ⟨g3, j, none⟩ := fun j => B6.cell (p := ⟨g3, j, none⟩) zg; have zX6 : w.heap.size + 1 < w6.heap.size := Nat.lt_of_lt_of_le zX B6.size; have zg6 : g3 < w6.heap.size := Nat.lt_of_lt_of_le zg B6.size)
                      | (go_at_call 18; refine (HC.out (wr.alloc (.cells #[.int .i64 0, .int .i64 0, .slice none 0 0, .int .i64 0, .int .i64 0] 27)).drew (b16.alloc b16.size _).drew).mono ?_; rintro e w6 ⟨v6, rfl, ho6, hb6⟩; obtain ⟨a6, j6, c6, rfl, _⟩ := steps_of ho6; have B6 : Below wr.heap.size wr w6 := ((Below.refl wr.heap.size wr).alloc (Nat.le_refl _) _).drew.trans (hb6.mono (by simp)); have nX : ∀ j, w6.cell? ⟨w.heap.size + 1, j, none⟩ = wr.cell? ⟨w.heap.size + 1, j, none⟩ := fun j => B6.cell (p := ⟨w.heap.size + 1, j, none⟩) zX; have nG : ∀ j, w6.cell? ⟨g3, j, none⟩ = wr.cell? ⟨g3, j, none⟩ := fun j => B6.cell (p := ⟨g3, j, none⟩) zg; have zX6 : w.heap.size + 1 < w6.heap.size := Nat.lt_of_lt_of_le zX B6.size; have zg6 : g3 < w6.heap.size := Nat.lt_of_lt_of_le zg B6.size; have Z6 := (PathAt.new wr 0 0 0 0 (.slice none 0 0)).keep ((Below.refl _ _).drew.trans hb6) (PathAt.new wr 0 0 0 0 (.slice none 0 0)).lt; have u0 := Z6.cells.1.1; have u1 := Z6.cells.1.2.1; have u2 := Z6.cells.1.2.2.1; have u3 := Z6.cells.1.2.2.2.1; have u4 := Z6.cells.1.2.2.2.2; have uf := Z6.cells.2; have nz1 : ¬ wr.heap.size = w.heap.size + 1 := (by omega); have nz2 : ¬ wr.heap.size = g3 := (by omega))
                      | fail)
                  · have BF : Below wr.heap.size wr (w6.alloc (.cells #[.int .i64 R.q, .int .i64 R.s, .slice a6 R.l.length c6, .int .i64 R.fr, .int .i64 R.b] 27)) := B6.alloc B6.size _
                    generalize (w6.alloc (.cells #[.int .i64 R.q, .int .i64 R.s, .slice a6 R.l.length c6, .int .i64 R.fr, .int .i64 R.b] 27)) = WF at BF ⊢
                    have TF := T6.below BF
                    clear BF
                    cases hf2 : f y2 with
                    | false =>
                      have HA : Hid (allT tb g nw = false) := allT_no HX.out HI.out (by rw [HG2.out, hf2, Bool.and_false])
                      go_wp2
                      go_ret
                      exact ⟨by rw [HA.out]; rfl, TF.old⟩
                    | true =>
                      have HK : Hid (g k = true) := by unfold Hid; rw [HG2.out, HF1.out, hf2]; rfl
                      go_wp2
                      go_roundw
                      case rel => exact ⟨k + 1, by omega, by go_num, by rw [HU.out, HI.out, Bool.or_true], TF, by rw [turnTo_hit HX.out HK.out]; exact HM.out⟩
                      case measure => simp [intOf]; omega
                  · have BF : Below wr.heap.size wr (((((w6.setCell ⟨wr.heap.size, 0, none⟩ (.int .i64 R.q)).setCell ⟨wr.heap.size, 1, none⟩ (.int .i64 R.s)).setCell ⟨wr.heap.size, 2, none⟩ (.slice a6 R.l.length c6)).setCell ⟨wr.heap.size, 3, none⟩ (.int .i64 R.fr)).setCell ⟨wr.heap.size, 4, none⟩ (.int .i64 R.b)) := Below.setCell (Below.setCell (Below.setCell (Below.setCell (Below.setCell B6 (Nat.le_refl _) _) (Nat.le_refl _) _) (Nat.le_refl _) _) (Nat.le_refl _) _) (Nat.le_refl _) _
                    generalize (((((w6.setCell ⟨wr.heap.size, 0, none⟩ (.int .i64 R.q)).setCell ⟨wr.heap.size, 1, none⟩ (.int .i64 R.s)).setCell ⟨wr.heap.size, 2, none⟩ (.slice a6 R.l.length c6)).setCell ⟨wr.heap.size, 3, none⟩ (.int .i64 R.fr)).setCell ⟨wr.heap.size, 4, none⟩ (.int .i64 R.b)) = WF at BF ⊢
                    have TF := T6.below BF
                    clear BF
                    cases hf2 : f y2 with
                    | false =>
                      have HA : Hid (allT tb g nw = false) := allT_no HX.out HI.out (by rw [HG2.out, hf2, Bool.and_false])
                      go_wp2
                      go_ret
                      exact ⟨by rw [HA.out]; rfl, TF.old⟩
                    | true =>
                      have HK : Hid (g k = true) := by unfold Hid; rw [HG2.out, HF1.out, hf2]; rfl
                      go_wp2
                      go_roundw
                      case rel => exact ⟨k + 1, by omega, by go_num, by rw [HU.out, HI.out, Bool.or_true], TF, by rw [turnTo_hit HX.out HK.out]; exact HM.out⟩
                      case measure => simp [intOf]; omega
    · obtain rfl : k = tb.length := by omega
      rw [List.take_length]
      go_wp2
      go_ret
      exact ⟨by unfold allT; rw [hm]; rfl, T1.old⟩
end Go.Proofs.YtijcdikekgmfoaaGreatDoor
