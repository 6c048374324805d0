/- Joined texts: NextData, CopyS, NextSpec, DrawPath, Mix, SpoilD, Spoil1, Spoil2, Spoil3, Spoil4, Reads, Shift, Draw2. -/
import Derived.Deep.DeepCutAuto
import Derived.Test.YtijcdikekgmfoaaGreatDoorJ01
import Derived.Test.YtijcdikekgmfoaaGreatDoorPathKit
import Derived.Test.YtijcdikekgmfoaaGreatDoorSpanSpec
import Derived.Test.YtijcdikekgmfoaaGreatDoorIntsAt
import Derived.Test.YtijcdikekgmfoaaGreatDoorCls
import Derived.Test.YtijcdikekgmfoaaGreatDoorSpec
namespace Go.Proofs.YtijcdikekgmfoaaGreatDoor
open Go.RowKit

/-- A step that was entered at a tick. -/
def Stp.hold (t : Stp) (z : Int) : Stp := { t with fr := mxB t.fr z, by_ := mnB t.by_ z }
/-- The steps, the first k of them held. -/
def heldL (l : List Stp) (zs : List Int) (k : Nat) : List Stp := (List.range l.length).map fun i => if i < k then (l.getD i .zero).hold (zs.getD i 0) else l.getD i .zero
theorem heldL_length (l : List Stp) (zs : List Int) (k : Nat) : (heldL l zs k).length = l.length := by simp [heldL]
theorem heldL_get (l : List Stp) (zs : List Int) (k i : Nat) (h : i < l.length) : (heldL l zs k)[i]? = some (if i < k then (l.getD i .zero).hold (zs.getD i 0) else l.getD i .zero) := by simp [heldL, h]
theorem getD_some {l : List Stp} {i : Nat} (h : i < l.length) : l[i]? = some (l.getD i .zero) := by
  rw [List.getD_eq_getElem?_getD, List.getElem?_eq_getElem h]; rfl
theorem getD_is {l : List Stp} {i : Nat} {t : Stp} (h : l[i]? = some t) : l.getD i .zero = t := by rw [List.getD_eq_getElem?_getD, h]; rfl
theorem heldL_zero (l : List Stp) (zs : List Int) : heldL l zs 0 = l := by
  apply List.ext_getElem?
  intro i
  by_cases h : i < l.length
  · rw [heldL_get _ _ _ _ h, if_neg (by omega), getD_some h]
  · rw [List.getElem?_eq_none (by rw [heldL_length]; omega), List.getElem?_eq_none (by omega)]
theorem heldL_succ (l : List Stp) (zs : List Int) (k : Nat) : heldL l zs (k + 1) = (heldL l zs k).set k ((l.getD k .zero).hold (zs.getD k 0)) := by
  apply List.ext_getElem?
  intro i
  by_cases h : i < l.length
  · rw [heldL_get _ _ _ _ h]
    by_cases e : k = i
    · subst e
      rw [List.getElem?_set_self (by rw [heldL_length]; exact h), if_pos (by omega)]
    · rw [List.getElem?_set_ne e, heldL_get _ _ _ _ h]
      by_cases c : i < k
      · rw [if_pos c, if_pos (by omega)]
      · rw [if_neg c, if_neg (by omega)]
  · rw [List.getElem?_eq_none (by rw [heldL_length]; omega), List.getElem?_eq_none (by rw [List.length_set, heldL_length]; omega)]
theorem heldL_now (l : List Stp) (zs : List Int) (k : Nat) (h : k < l.length) : (heldL l zs k)[k]? = some (l.getD k .zero) := by rw [heldL_get _ _ _ _ h, if_neg (by omega)]

theorem held_as (fr b s : Int) (l : List Stp) (zs : List Int) (hz : zs.length ≤ l.length) : HeldAs fr b l fr b (heldL l zs zs.length) s (fun i => zs.getD i 0) zs.length where
  len := heldL_length _ _ _
  most k := by
    unfold mostB
    by_cases h : k < l.length
    · rw [getD_is (heldL_get l zs zs.length k h)]
      split <;> rfl
    · rw [List.getD_eq_getElem?_getD, List.getD_eq_getElem?_getD, List.getElem?_eq_none (by rw [heldL_length]; omega), List.getElem?_eq_none (by omega)]
  low k := by
    unfold lowB
    rw [heldL_length]
    by_cases h : k < l.length
    · rw [if_pos h, if_pos h, getD_is (heldL_get l zs zs.length k h)]
      split <;> rfl
    · rw [if_neg h, if_neg h, if_neg (by omega)]
  high k := by
    unfold highB
    rw [heldL_length]
    by_cases h : k < l.length
    · rw [if_pos h, if_pos h, getD_is (heldL_get l zs zs.length k h)]
      split <;> rfl
    · rw [if_neg h, if_neg h, if_neg (by omega)]

theorem held_wide {q s fr b : Int} {l : List Stp} (hp : Wide q s fr b l) (zs : List Int) (hz : zs.length ≤ l.length) : Wide q s fr b (heldL l zs zs.length) where
  kind := hp.kind
  len := by rw [heldL_length]; exact hp.len
  win k := by
    have hh := held_as fr b s l zs hz
    have h0 := hp.win k
    rw [hh.low, hh.high]
    split
    · have m1 := mxB_le (lowB fr l k) (zs.getD k 0)
      have m2 := mnB_le (highB b l k) (zs.getD k 0)
      constructor
      · omega
      · have := m2.1; omega
    · exact h0

/-- Each of the ticks was open. -/
def begunB (q s fr b : Int) (l : List Stp) (zs : List Int) : Nat → Bool
  | 0 => true
  | k + 1 => begunB q s fr b l zs k && inB (zs.getD k 0) (openA q s fr b l l.length (fun i => zs.getD i 0) k).1 (openA q s fr b l l.length (fun i => zs.getD i 0) k).2
theorem begunB_iff (q s fr b : Int) (l : List Stp) (zs : List Int) : ∀ m, begunB q s fr b l zs m = true ↔ ∀ k, k < m → inP (zs.getD k 0) (openA q s fr b l l.length (fun i => zs.getD i 0) k)
  | 0 => ⟨fun _ k hk => by omega, fun _ => rfl⟩
  | m + 1 => by
    rw [begunB, Bool.and_eq_true, begunB_iff q s fr b l zs m, inB_iff]
    constructor
    · rintro ⟨h1, h2⟩ k hk
      by_cases e : k = m
      · subst e; exact h2
      · exact h1 k (by omega)
    · intro h
      exact ⟨fun k hk => h k (by omega), h m (by omega)⟩
/-- It can be gone on with. -/
def goB (q s fr b : Int) (l : List Stp) (zs : List Int) : Bool := pathB q s fr b l && spanB q s fr b l && decide (zs.length ≤ l.length) && begunB q s fr b l zs zs.length
def goS (q s fr b : Int) (l : List Stp) (zs : List Int) : Int × Int := if goB q s fr b l zs then openA q s fr b l l.length (fun i => zs.getD i 0) zs.length else (0, 0)

/-- What the specification finds. -/
theorem held_go {q s fr b : Int} {l : List Stp} {zs : List Int} (hp : pathB q s fr b l = true) (hz : zs.length ≤ l.length) :
    spanB q s fr b (heldL l zs zs.length) = goB q s fr b l zs ∧ (goB q s fr b l zs = true → (spansL q s fr b (heldL l zs zs.length))[zs.length]? = some (goS q s fr b l zs)) := by
  have hw := Wide.of hp
  have hw' := held_wide hw zs hz
  have key := held_next (n := l.length) (held_as fr b s l zs hz) hw.quick hz
  have e1 : spanB q s fr b (heldL l zs zs.length) = goB q s fr b l zs := by
    rw [hw'.span_fwd, heldL_length]
    unfold goB
    rw [hp, hw.span_fwd, Bool.eq_iff_iff, key.1]
    simp only [Bool.true_and, Bool.and_eq_true, decide_eq_true_eq]
    rw [begunB_iff]
    exact ⟨fun ⟨h1, h2⟩ => ⟨⟨h1, hz⟩, h2⟩, fun ⟨⟨h1, _⟩, h2⟩ => ⟨h1, h2⟩⟩
  refine ⟨e1, fun hg => ?_⟩
  have hsp : spanB q s fr b (heldL l zs zs.length) = true := by rw [e1]; exact hg
  have hf : fwdTo q s fr b (heldL l zs zs.length) (l.length + 1) = true := by
    have := hw'.span_fwd
    rw [heldL_length] at this
    rw [← this]; exact hsp
  have k2 := key.2 hf
  unfold goS
  rw [if_pos hg, ← k2]
  unfold spansL spanAt
  rw [if_pos hsp, heldL_length, List.getElem?_map, List.getElem?_range (by omega)]
  rfl

/-- The row of spans when these ticks have come: what was open to each of them, what is open to the next, the spans of the rest. -/
def rowG (q s fr b : Int) (l : List Stp) (c : Nat → Int) (m : Nat) : List (Int × Int) := (List.range (l.length + 1)).map fun j => if j ≤ m then openA q s fr b l l.length c j else spanAt q s fr b l l.length j
theorem rowG_length (q s fr b : Int) (l : List Stp) (c : Nat → Int) (m : Nat) : (rowG q s fr b l c m).length = l.length + 1 := by simp [rowG]
theorem rowG_get (q s fr b : Int) (l : List Stp) (c : Nat → Int) (m j : Nat) (h : j ≤ l.length) : (rowG q s fr b l c m)[j]? = some (if j ≤ m then openA q s fr b l l.length c j else spanAt q s fr b l l.length j) := by
  simp [rowG, show j < l.length + 1 by omega]
theorem rowG_zero {q s fr b : Int} {l : List Stp} (c : Nat → Int) (h : spanB q s fr b l = true) : rowG q s fr b l c 0 = spansL q s fr b l := by
  unfold rowG spansL
  rw [if_pos h]
  apply List.map_congr_left
  intro j _
  by_cases e : j ≤ 0
  · obtain rfl : j = 0 := by omega
    rw [if_pos e]; rfl
  · rw [if_neg e]; rfl
theorem rowG_succ (q s fr b : Int) (l : List Stp) (c : Nat → Int) (m : Nat) : rowG q s fr b l c (m + 1) = (rowG q s fr b l c m).set (m + 1) (openP q s fr b l l.length m (c m)) := by
  apply List.ext_getElem?
  intro j
  by_cases h : j ≤ l.length
  · rw [rowG_get _ _ _ _ _ _ _ _ h]
    by_cases e : m + 1 = j
    · subst e
      rw [List.getElem?_set_self (by rw [rowG_length]; omega), if_pos (Nat.le_refl _)]; rfl
    · rw [List.getElem?_set_ne e, rowG_get _ _ _ _ _ _ _ _ h]
      by_cases e' : j ≤ m
      · rw [if_pos e', if_pos (by omega)]
      · rw [if_neg e', if_neg (by omega)]
  · rw [List.getElem?_eq_none (by rw [rowG_length]; omega), List.getElem?_eq_none (by rw [List.length_set, rowG_length]; omega)]
/-- Only the ticks that have come count. -/
theorem rowG_congr {q s fr b : Int} {l : List Stp} {c c' : Nat → Int} {m : Nat} (h : ∀ i, i < m → c i = c' i) : rowG q s fr b l c m = rowG q s fr b l c' m := by
  unfold rowG
  apply List.map_congr_left
  intro j _
  split
  · cases j with
    | zero => rfl
    | succ i => simp only [openA]; rw [h i (by omega)]
  · rfl
end Go.Proofs.YtijcdikekgmfoaaGreatDoor

namespace Go.Proofs.YtijcdikekgmfoaaGreatDoor
open Go.RowKit

set_option maxRecDepth 20000 in
set_option maxHeartbeats 1000000 in
theorem copyS_any (q s fr b : Int) (a : Option Addr) (b0 o cap : Nat) (l : List Stp) (w : World) (hl0 : 1 ≤ l.length) (hl : l.length ≤ 1048576) (hs : StepsAt w a b0 o l) :
    Calls Tryz.prog 108 #[.agg #[.int .i64 q, .int .i64 s, .slice a l.length cap, .int .i64 fr, .int .i64 b]] w
      fun e w' => ∃ g gcap, e = .returned (.agg #[.int .i64 q, .int .i64 s, .slice (some ⟨g, 0, none⟩) l.length gcap, .int .i64 fr, .int .i64 b]) ∧
        w'.ownsRow w.heap.size 44 7 (.slice (some ⟨g, 0, none⟩) l.length gcap) l.length (stepCells l) ∧ Below w.heap.size w w' := by
  obtain ⟨i0, hi, hz0, hz1, hz2⟩ := info_parts step_info
  have hne : l ≠ [] := by intro e; subst e; simp at hl0
  obtain rfl := hs.here hne
  go_enter Tryz.func108, Tryz.ntmps108
  have hB0 := (BoxP.new w q s fr b (.slice (some ⟨b0, o, none⟩) l.length cap) 27)
  have hE := owns_empty (w := ((w.alloc (.cells #[.int .i64 q, .int .i64 s, .slice (some ⟨b0, o, none⟩) l.length cap, .int .i64 fr, .int .i64 b] 27)).alloc (.cells #[.int .i64 0, .int .i64 0, .slice none 0 0, .int .i64 0, .int .i64 0] 27))) (base := w.heap.size + 1 + 1) (e := 44) (size := 7) (by simp)
  simp only [World.size_alloc] at hE
  have hnew := steps_news (((hs.alloc (.cells #[.int .i64 q, .int .i64 s, .slice (some ⟨b0, o, none⟩) l.length cap, .int .i64 fr, .int .i64 b] 27)).alloc (.cells #[.int .i64 0, .int .i64 0, .slice none 0 0, .int .i64 0, .int .i64 0] 27)).alloc (.cells #[] 44))
  have hC : ∀ w4, (((w.alloc (.cells #[.int .i64 q, .int .i64 s, .slice (some ⟨b0, o, none⟩) l.length cap, .int .i64 fr, .int .i64 b] 27)).alloc (.cells #[.int .i64 0, .int .i64 0, .slice none 0 0, .int .i64 0, .int .i64 0] 27)).alloc (.cells #[] 44)).grownBy w4 (Value.slice (some ⟨w.heap.size + 1 + 1, 0, none⟩) 0 0).ownBlock →
      w4.cell? ⟨w.heap.size, 0, none⟩ = some (.int .i64 q) ∧ w4.cell? ⟨w.heap.size, 1, none⟩ = some (.int .i64 s) ∧ w4.cell? ⟨w.heap.size, 2, none⟩ = some (.slice (some ⟨b0, o, none⟩) l.length cap) ∧ w4.cell? ⟨w.heap.size, 3, none⟩ = some (.int .i64 fr) ∧ w4.cell? ⟨w.heap.size, 4, none⟩ = some (.int .i64 b) ∧
      w4.cell? ⟨w.heap.size + 1, 0, none⟩ = some (.int .i64 0) ∧ w4.cell? ⟨w.heap.size + 1, 1, none⟩ = some (.int .i64 0) ∧ w4.cell? ⟨w.heap.size + 1, 2, none⟩ = some (.slice none 0 0) ∧ w4.cell? ⟨w.heap.size + 1, 3, none⟩ = some (.int .i64 0) ∧ w4.cell? ⟨w.heap.size + 1, 4, none⟩ = some (.int .i64 0) := fun w4 hg => by
    have k0 : ∀ j, w4.cell? ⟨w.heap.size, j, none⟩ = _ := fun j => World.cell?_of_block (a := ⟨w.heap.size, j, none⟩) (hg.block w.heap.size (by simp; omega) (by simp [Value.ownBlock]; omega))
    have k1 : ∀ j, w4.cell? ⟨w.heap.size + 1, j, none⟩ = _ := fun j => World.cell?_of_block (a := ⟨w.heap.size + 1, j, none⟩) (hg.block (w.heap.size + 1) (by simp) (by simp [Value.ownBlock]))
    simp only [k0, k1]
    simp [go_sem]
  have hF : ∀ w4, (((w.alloc (.cells #[.int .i64 q, .int .i64 s, .slice (some ⟨b0, o, none⟩) l.length cap, .int .i64 fr, .int .i64 b] 27)).alloc (.cells #[.int .i64 0, .int .i64 0, .slice none 0 0, .int .i64 0, .int .i64 0] 27)).alloc (.cells #[] 44)).grownBy w4 (Value.slice (some ⟨w.heap.size + 1 + 1, 0, none⟩) 0 0).ownBlock →
      (∀ j, w4.frozen? ⟨w.heap.size, j, none⟩ = false) ∧ ∀ j, w4.frozen? ⟨w.heap.size + 1, j, none⟩ = false := fun w4 hg => by
    have k0 : ∀ j, w4.frozen? ⟨w.heap.size, j, none⟩ = _ := fun j => World.frozen?_of_block (a := ⟨w.heap.size, j, none⟩) (hg.block w.heap.size (by simp; omega) (by simp [Value.ownBlock]; omega))
    have k1 : ∀ j, w4.frozen? ⟨w.heap.size + 1, j, none⟩ = _ := fun j => World.frozen?_of_block (a := ⟨w.heap.size + 1, j, none⟩) (hg.block (w.heap.size + 1) (by simp) (by simp [Value.ownBlock]))
    simp only [k0, k1]
    simp [go_sem]
  go_wp2_with (at_builtin; refine wpList_append_own _ rfl (.tmp 3) (.tmp 5) 25 rfl (w.heap.size + 1 + 1) 44 i0 (.agg #[.int .i64 0, .int .i64 0, .int .i64 0, .int .i64 0, .int .i64 0, .int .i64 0, .bool false]) 7 56 Tryz.underlying25 hi hz0 hz1 hz2 rfl (by decide) (.slice (some ⟨w.heap.size + 1 + 1, 0, none⟩) 0 0) 0 [] rfl hE ⟨b0, o, none⟩ l.length cap (stepCells l) rfl (stepCells_length l) hnew (stepCells_one l) (by unfold maxLen; omega) (by omega) (by simp) ?_; intro v' w4 hown4 hgrow4 hnil4; simp only [Nat.zero_add, List.nil_append] at hown4; obtain ⟨g4, gc4, rfl, hg4, hgl4⟩ := owns_some hown4 (by omega); have c4 := hC w4 hgrow4; have f4 := hF w4 hgrow4; have z0 := c4.1; have z1 := c4.2.1; have z2 := c4.2.2.1; have z3 := c4.2.2.2.1; have z4 := c4.2.2.2.2.1; have y0 := c4.2.2.2.2.2.1; have y1 := c4.2.2.2.2.2.2.1; have y2 := c4.2.2.2.2.2.2.2.1; have y3 := c4.2.2.2.2.2.2.2.2.1; have y4 := c4.2.2.2.2.2.2.2.2.2)
  have HB4 : Below w.heap.size w w4 := ((((Below.refl w.heap.size w).alloc (Nat.le_refl _) _).alloc (by simp) _).alloc (by simp; omega) _).grown hgrow4 (by simp; omega) (fun k e => by simp [Value.ownBlock] at e; omega)
  refine bodyPost_ret (v := .agg #[.int .i64 q, .int .i64 s, .slice (some ⟨g4, 0, none⟩) l.length gc4, .int .i64 fr, .int .i64 b]) (by simp [results, Tryz.results108, go_sem, *]) rfl ⟨g4, gc4, rfl, ?_, ?_⟩
  · have hh : ∀ k, (Value.slice (some ⟨g4, 0, none⟩) l.length gc4).ownBlock = some k → k ≠ w.heap.size ∧ k ≠ w.heap.size + 1 := fun k e => by simp [Value.ownBlock] at e; omega
    iterate 6 (refine owns_set ?_ (fun k e => by first | exact (hh k e).1 | exact (hh k e).2) _ _)
    exact ⟨hown4.1, hown4.2.imp id fun ⟨g, cap, cur, h1, h2, h3⟩ => ⟨g, cap, cur, h1, by omega, h3⟩⟩
  · iterate 6 (refine Below.setCell ?_ (by simp <;> omega) _)
    exact HB4

end Go.Proofs.YtijcdikekgmfoaaGreatDoor

namespace Go.Proofs.YtijcdikekgmfoaaGreatDoor
open Go.RowKit

set_option maxRecDepth 20000 in
set_option maxHeartbeats 4000000 in
theorem heldS_any (q s fr b : Int) (a : Option Addr) (b0 o cap : Nat) (l : List Stp) (c : Option Addr) (cb co ccap : Nat) (zs : List Int) (w : World) (hl0 : 1 ≤ l.length) (hl : l.length ≤ 1048576) (hs : StepsAt w a b0 o l) (hz : IntsAt w c cb co zs) (hn : zs.length ≤ l.length) :
    Calls Tryz.prog 69 #[.agg #[.int .i64 q, .int .i64 s, .slice a l.length cap, .int .i64 fr, .int .i64 b], .slice c zs.length ccap] w
      fun e w' => ∃ g gcap, e = .returned (.agg #[.int .i64 q, .int .i64 s, .slice (some ⟨g, 0, none⟩) l.length gcap, .int .i64 fr, .int .i64 b]) ∧
        w'.ownsRow w.heap.size 44 7 (.slice (some ⟨g, 0, none⟩) l.length gcap) l.length (stepCells (heldL l zs zs.length)) ∧ Below w.heap.size w w' := by
  go_enter Tryz.func69, Tryz.ntmps69
  go_wp2_with fail
  refine (copyS_any _ _ _ _ _ b0 o _ _ _ hl0 hl ((hs.alloc _).alloc _)).mono ?_
  rintro e w1 ⟨g, gcap, rfl, hown1, hb1⟩
  have hg1 := (hown1.lt g rfl).1
  have hgl1 := (hown1.lt g rfl).2
  simp only [World.size_alloc] at hg1 hb1
  have hb01 : Below w.heap.size w w1 := (((Below.refl w.heap.size w).alloc (Nat.le_refl _) _).alloc (by simp) _).trans (hb1.mono (by omega))
  have z1 := hb1.size
  have hx2 := PathAt.new w1 q s fr b (.slice (some ⟨g, 0, none⟩) l.length gcap)
  have hr0 := ResP.new (w.alloc (.cells #[.int .i64 q, .int .i64 s, .slice a l.length cap, .int .i64 fr, .int .i64 b] 27))
  simp only [World.size_alloc] at hr0
  have hr1 := hr0.keep hb1 (by omega)
  have hal : Below w1.heap.size w1 (w1.alloc (.cells #[.int .i64 q, .int .i64 s, .slice (some ⟨g, 0, none⟩) l.length gcap, .int .i64 fr, .int .i64 b] 27)) := (Below.refl w1.heap.size w1).alloc (Nat.le_refl _) _
  have hr2 := hr1.keep hal hr1.lt
  have hb02 := hb01.trans (hal.mono hb01.size)
  have hown2 : (w1.alloc (.cells #[.int .i64 q, .int .i64 s, .slice (some ⟨g, 0, none⟩) l.length gcap, .int .i64 fr, .int .i64 b] 27)).ownsRow w.heap.size 44 7 (.slice (some ⟨g, 0, none⟩) l.length gcap) l.length (stepCells (heldL l zs 0)) := by
    rw [heldL_zero]
    have := owns_below hown1 hal
    refine ⟨this.1, this.2.imp id fun ⟨g, cap, cur, h1, h2, h3⟩ => ⟨g, cap, cur, h1, by simp at h2; omega, h3⟩⟩
  clear hr0 hr1 hal hown1 hb1 z1 hb01
  go_wp2_with fail
  go_loopw [6] (fun u wr => ∃ k : Nat, k ≤ zs.length ∧ u = .int .i64 k ∧ PathAt wr w1.heap.size q s fr b (.slice (some ⟨g, 0, none⟩) l.length gcap) ∧ ResP wr (w.heap.size + 1) ∧ Below w.heap.size w wr ∧ wr.ownsRow w.heap.size 44 7 (.slice (some ⟨g, 0, none⟩) l.length gcap) l.length (stepCells (heldL l zs k))) (fun u _ => zs.length - (intOf u).toNat)
  case atStart => exact ⟨0, Nat.zero_le _, rfl, hx2, hr2, hb02, hown2⟩
  case round =>
    clear hx2 hr2 hb02 hown2
    obtain ⟨k, hk, rfl, hx, hr, hb, hown⟩ := hrel
    obtain ⟨⟨p0, p1, p2, p3, p4⟩, pf⟩ := hx.cells
    obtain ⟨⟨r0, r1, r2, r3, r4⟩, rf⟩ := hr.cells
    by_cases hlt : k < zs.length
    · have hne : zs ≠ [] := by intro e; subst e; simp at hlt
      obtain rfl := hz.here hne
      obtain ⟨z, hzk⟩ : ∃ z, zs[k]? = some z := ⟨zs[k], List.getElem?_eq_getElem hlt⟩
      have hkl : k < l.length := by omega
      obtain ⟨t, ht⟩ : ∃ t, l.getD k .zero = t := ⟨_, rfl⟩
      have hnow := heldL_now l zs k hkl
      rw [ht] at hnow
      have x4 := (hown.cellAt (k * 7 + 4) (by omega)).trans (stepCells_at _ k t 4 hnow (by decide))
      have x5 := (hown.cellAt (k * 7 + 5) (by omega)).trans (stepCells_at _ k t 5 hnow (by decide))
      simp only [List.getElem?_cons_succ, List.getElem?_cons_zero] at x4 x5
      have zc := (hz.below hb hz.lt).cell k z hzk
      have hcb := (hz.below hb hz.lt).lt hne
      have hgr : g < wr.heap.size := (hown.lt g rfl).2
      have hpr : w1.heap.size < wr.heap.size := hx.lt
      have m0 : (0 : Int) ≤ (k : Int) := by omega
      have m1 : (k : Int) < (zs.length : Int) := by omega
      have m2 : (k : Int) < (l.length : Int) := by omega
      obtain ⟨n1, hn1⟩ : ∃ n1, mxB t.fr z = n1 := ⟨_, rfl⟩
      obtain ⟨n2, hn2⟩ : ∃ n2, mnB t.by_ z = n2 := ⟨_, rfl⟩
      have MX : ∀ (W : World), Calls Tryz.prog 41 #[.int .i64 t.fr, .int .i64 z] W fun e w' => e = .returned (.int .i64 n1) ∧ w' = W := fun W => by rw [← hn1]; exact max_any _ _ _
      have MN : ∀ (W : World), Calls Tryz.prog 40 #[.int .i64 t.by_, .int .i64 z] W fun e w' => e = .returned (.int .i64 n2) ∧ w' = W := fun W => by rw [← hn2]; exact min_any _ _ _
      have HO : Hid (wr.ownsRow w.heap.size 44 7 (.slice (some ⟨g, 0, none⟩) l.length gcap) l.length (stepCells (heldL l zs k))) := hown
      have HX : Hid (PathAt wr w1.heap.size q s fr b (.slice (some ⟨g, 0, none⟩) l.length gcap)) := hx
      have HR : Hid (ResP wr (w.heap.size + 1)) := hr
      have HB : Hid (Below w.heap.size w wr) := hb
      have hsl : (stepCells (heldL l zs k)).length = l.length * 7 := hown.1
      clear hx hr hb hown hnow pf r0 r1 r2 r3 r4 rf p3 p4 p0 p1
      have qn := Cls.any wr
      have q1 := Cls.cell hgr
      have q2 := Cls.cell hpr
      have q3 := Cls.cell hcb
      go_wp2
      refine wp_region_last (by kernel_rfl) (by simp) (by kernel_rfl) (by kernel_rfl) ?_
      simp only [initL, endL]
      repeat (go_big_quiet_step ((go_at_call 41; exact Calls.cls_of_same (MX _))))
      refine wpQuiet_nil ?_
      rintro _ ⟨u, rfl⟩
      have hownu := owns_below HO.out u.same
      have t0 := (hownu.cellAt (k * 7 + 4) (by omega)).trans ((HO.out.cellAt (k * 7 + 4) (by omega)).symm.trans x4)
      have tf := hownu.frozenAt
      clear q1 q2 q3 qn MX
      go_wp2
      have hown8 := owns_put hownu (j := k * 7 + 4) (by omega) (.int .i64 n1)
      have hx8 := (HX.out.keep u.same hpr).set (p := ⟨g, k * 7 + 4, none⟩) (by show w1.heap.size ≠ g; omega) (.int .i64 n1)
      have hr8 := (HR.out.keep u.same HR.out.lt).set (p := ⟨g, k * 7 + 4, none⟩) (by show w.heap.size + 1 ≠ g; omega) (.int .i64 n1)
      have hb8 := (HB.out.trans (u.same.mono HB.out.size)).setCell (p := ⟨g, k * 7 + 4, none⟩) (by show w.heap.size ≤ g; omega) (.int .i64 n1)
      have z5 : ((stepCells (heldL l zs k)).set (k * 7 + 4) (.int .i64 n1))[k * 7 + 5]? = some (.int .i64 t.by_) := by
        rw [List.getElem?_set_ne (by omega), ← HO.out.cellAt (k * 7 + 5) (by omega)]; exact x5
      clear t0 tf hownu x4 x5 p2 zc hcb
      generalize u.it.setCell ⟨g, k * 7 + 4, none⟩ (.int .i64 n1) = w8 at hown8 hx8 hr8 hb8 ⊢
      have x5 := (hown8.cellAt (k * 7 + 5) (by omega)).trans z5
      obtain ⟨⟨_, _, p2, _, _⟩, _⟩ := hx8.cells
      have zc := (hz.below hb8 hz.lt).cell k z hzk
      have hcb := (hz.below hb8 hz.lt).lt hne
      have hgr8 : g < w8.heap.size := (hown8.lt g rfl).2
      have hpr8 : w1.heap.size < w8.heap.size := hx8.lt
      have qn := Cls.any w8
      have q1 := Cls.cell hgr8
      have q2 := Cls.cell hpr8
      have q3 := Cls.cell hcb
      have HO8 : Hid (w8.ownsRow w.heap.size 44 7 (.slice (some ⟨g, 0, none⟩) l.length gcap) l.length ((stepCells (heldL l zs k)).set (k * 7 + 4) (.int .i64 n1))) := hown8
      have HX8 : Hid (PathAt w8 w1.heap.size q s fr b (.slice (some ⟨g, 0, none⟩) l.length gcap)) := hx8
      have HR8 : Hid (ResP w8 (w.heap.size + 1)) := hr8
      have HB8 : Hid (Below w.heap.size w w8) := hb8
      clear hx8 hr8 hb8 hown8 hpr hgr HX HR HB
      refine wp_region_last (by kernel_rfl) (by simp) (by kernel_rfl) (by kernel_rfl) ?_
      simp only [initL, endL]
      repeat (go_big_quiet_step ((go_at_call 40; exact Calls.cls_of_same (MN _))))
      refine wpQuiet_nil ?_
      rintro _ ⟨u2, rfl⟩
      have hownu := owns_below HO8.out u2.same
      have t0 := (hownu.cellAt (k * 7 + 5) (by omega)).trans z5
      have tf := hownu.frozenAt
      clear q1 q2 q3 qn MN
      go_wp2
      have hown9 := owns_put hownu (j := k * 7 + 5) (by omega) (.int .i64 n2)
      have hx9 := (HX8.out.keep u2.same hpr8).set (p := ⟨g, k * 7 + 5, none⟩) (by show w1.heap.size ≠ g; omega) (.int .i64 n2)
      have hr9 := (HR8.out.keep u2.same HR8.out.lt).set (p := ⟨g, k * 7 + 5, none⟩) (by show w.heap.size + 1 ≠ g; omega) (.int .i64 n2)
      have hb9 := (HB8.out.trans (u2.same.mono HB8.out.size)).setCell (p := ⟨g, k * 7 + 5, none⟩) (by show w.heap.size ≤ g; omega) (.int .i64 n2)
      have ER : stepCells (heldL l zs (k + 1)) = ((stepCells (heldL l zs k)).set (k * 7 + 4) (.int .i64 n1)).set (k * 7 + 5) (.int .i64 n2) := by
        have hgz : zs.getD k 0 = z := by rw [List.getD_eq_getElem?_getD, hzk]; rfl
        have hnow := heldL_now l zs k hkl
        rw [heldL_succ, ht, hgz, ← hn1, ← hn2]
        rw [ht] at hnow
        exact stepCells_set _ k t (t.hold z) hnow rfl
      rw [← ER] at hown9
      go_roundw
      case rel => exact ⟨k + 1, by omega, by go_num, hx9, hr9, hb9, hown9⟩
      case measure => simp [intOf]; omega
    · obtain rfl : k = zs.length := by omega
      go_wp2
      refine bodyPost_ret (v := .agg #[.int .i64 q, .int .i64 s, .slice (some ⟨g, 0, none⟩) l.length gcap, .int .i64 fr, .int .i64 b]) (by simp [results, Tryz.results69, go_sem, *]) rfl ⟨g, gcap, rfl, ?_, ?_⟩
      · have hh : ∀ j, (Value.slice (some ⟨g, 0, none⟩) l.length gcap).ownBlock = some j → j ≠ w.heap.size + 1 := fun j e => by simp [Value.ownBlock] at e; omega
        iterate 5 (refine owns_set ?_ (fun j e => hh j e) _ _)
        exact hown
      · iterate 5 (refine Below.setCell ?_ (by simp <;> omega) _)
        exact hb
end Go.Proofs.YtijcdikekgmfoaaGreatDoor

namespace Go.Proofs.YtijcdikekgmfoaaGreatDoor
open Go.RowKit

/-- What lies while a path is drawn. -/
structure PathD (w wr : World) (B : Nat) (R : Rdr) (p P : Nat) (q s : Int) (v : Value) (l : List Stp) : Prop where
  rd : RdW w wr B R p
  ge : w.heap.size < P
  res : PathAt wr w.heap.size 0 0 0 0 (.slice none 0 0)
  pa : PathAt wr P q s 0 0 v
  own : wr.ownsRow (P + 1) 44 7 v l.length (stepCells l)
section
variable {w wr w' : World} {B : Nat} {R : Rdr} {p p' P : Nat} {q s : Int} {v : Value} {l : List Stp}
theorem PathD.more (h : PathD w wr B R p P q s v l) (hr : RdAt w' B R p') (hg : wr.grownBy w' (some B)) : PathD w w' B R p' P q s v l := by
  have := h.rd.lt
  have := h.ge
  exact ⟨h.rd.more hr hg, h.ge, h.res.grown hg (by simp; omega), h.pa.grown hg (by simp; omega), owns_grown h.own hg (fun k e => by cases e; omega)⟩
theorem PathD.below (h : PathD w wr B R p P q s v l) (hb : Below wr.heap.size wr w') : PathD w w' B R p P q s v l :=
  ⟨h.rd.below hb, h.ge, h.res.keep hb h.res.lt, h.pa.keep hb h.pa.lt, owns_below h.own hb⟩
theorem PathD.alloc (h : PathD w wr B R p P q s v l) (ob : Obj) : PathD w (wr.alloc ob) B R p P q s v l := h.below ((Below.refl _ _).alloc (Nat.le_refl _) ob)
theorem PathD.set (h : PathD w wr B R p P q s v l) {S : Nat} (hS : P < S) (hv : ∀ k, v.ownBlock = some k → k ≠ S) (j : Nat) (u : Value) : PathD w (wr.setCell ⟨S, j, none⟩ u) B R p P q s v l := by
  have := h.ge
  exact ⟨h.rd.set (by omega) j u, h.ge, h.res.set (by show _ ≠ S; omega) u, h.pa.set (by show _ ≠ S; omega) u, owns_set h.own hv j u⟩
theorem PathD.append (h : PathD w wr B R p P q s v l) {t : Stp} {v' : Value} (ho : w'.ownsRow (P + 1) 44 7 v' (l.length + 1) (stepCells l ++ t.cells)) (hg : wr.grownBy w' v.ownBlock) :
    PathD w (w'.setCell ⟨P, 2, none⟩ v') B R p P q s v' (l ++ [t]) := by
  have hge := h.ge
  have hbase := owns_base h.own
  have hpa := h.pa.grown hg (fun e => by have := hbase P e; omega)
  refine ⟨(h.rd.grown hg (fun k e => by have := hbase k e; omega)).set (by omega) 2 v', h.ge, (h.res.grown hg (fun e => by have := hbase _ e; omega)).set (by show _ ≠ P; omega) v', ⟨?_⟩, ?_⟩
  · rw [heap_setCell_same _ P 2 _ _ v' hpa.it]; rfl
  · have h1 := owns_set ho (B := P) (fun k e => by have := owns_base ho k e; omega) 2 v'
    simpa [stepCells] using h1
end

theorem blk7 {w : World} {S : Nat} {c0 c1 c2 c3 c4 c5 c6 : Value} {t : TypeId} (h : w.heap[S]? = some (.cells #[c0, c1, c2, c3, c4, c5, c6] t (0, 0))) :
    (w.cell? ⟨S, 0, none⟩ = some c0 ∧ w.cell? ⟨S, 1, none⟩ = some c1 ∧ w.cell? ⟨S, 2, none⟩ = some c2 ∧ w.cell? ⟨S, 3, none⟩ = some c3 ∧ w.cell? ⟨S, 4, none⟩ = some c4 ∧ w.cell? ⟨S, 5, none⟩ = some c5 ∧ w.cell? ⟨S, 6, none⟩ = some c6) ∧ ∀ j, w.frozen? ⟨S, j, none⟩ = false := by
  refine ⟨⟨?_, ?_, ?_, ?_, ?_, ?_, ?_⟩, fun j => ?_⟩ <;> simp [World.cell?, World.frozen?, h]
theorem blk7_set {w : World} {S : Nat} {c0 c1 c2 c3 c4 c5 c6 : Value} {t : TypeId} (h : w.heap[S]? = some (.cells #[c0, c1, c2, c3, c4, c5, c6] t (0, 0))) (j : Nat) (u : Value) :
    (w.setCell ⟨S, j, none⟩ u).heap[S]? = some (.cells (#[c0, c1, c2, c3, c4, c5, c6].setIfInBounds j u) t (0, 0)) := heap_setCell_same w S j _ _ u h
theorem seven_new (w : World) (t : Stp) (ty : TypeId) : ∀ (j : Nat) (u : Value), t.cells[j]? = some u → (w.alloc (.cells #[.int .i64 t.x, .int .i64 t.y, .int .i64 t.lo, .int .i64 t.hi, .int .i64 t.fr, .int .i64 t.by_, .bool t.ho] ty)).cell? ((⟨w.heap.size, 0, none⟩ : Addr).add j) = some u := by
  intro j u hj
  have hb := heap_alloc_new w (.cells #[.int .i64 t.x, .int .i64 t.y, .int .i64 t.lo, .int .i64 t.hi, .int .i64 t.fr, .int .i64 t.by_, .bool t.ho] ty)
  obtain ⟨⟨h0, h1, h2, h3, h4, h5, h6⟩, _⟩ := blk7 hb
  match j, hj with
  | 0, hj => simp at hj; subst hj; exact h0
  | 1, hj => simp at hj; subst hj; exact h1
  | 2, hj => simp at hj; subst hj; exact h2
  | 3, hj => simp at hj; subst hj; exact h3
  | 4, hj => simp at hj; subst hj; exact h4
  | 5, hj => simp at hj; subst hj; exact h5
  | 6, hj => simp at hj; subst hj; exact h6
theorem stepCells_snoc (l : List Stp) (t : Stp) : stepCells (l ++ [t]) = stepCells l ++ t.cells := by simp [stepCells]

set_option maxRecDepth 20000 in
set_option maxHeartbeats 4000000 in
theorem path_draw (B : Nat) (R : Rdr) (p : Nat) (w : World) (h : RdAt w B R p) (hp : p ≤ 999900000) :
    Calls Tryz.prog 79 #[.pointer (some ⟨B, 0, none⟩)] w fun e w' => ∃ q s fr b v l p', e = .returned (.agg #[.int .i64 q, .int .i64 s, v, .int .i64 fr, .int .i64 b]) ∧ 1 ≤ l.length ∧ l.length ≤ 40 ∧ w'.ownsRow w.heap.size 44 7 v l.length (stepCells l) ∧ p' ≤ p + 5000 ∧ RdW w w' B R p' := by
  obtain ⟨i0, hinf, hz0, hz1, hz2⟩ := info_parts step_info
  have hB := lt_of_block h.blk
  have R0 := (RdW.refl h).alloc (.cells #[.int .i64 0, .int .i64 0, .slice none 0 0, .int .i64 0, .int .i64 0] 27)
  have P0 := PathAt.new w 0 0 0 0 (.slice none 0 0)
  go_enter Tryz.func79, Tryz.ntmps79
  go_wp2_with fail
  refine (kind_draw B R p _ R0.rd (by omega)).mono ?_
  rintro e w1 ⟨q, s, rfl, R1'⟩
  have R1 := R0.more R1'.rd R1'.gr
  have P1 := P0.grown R1'.gr (by simp; omega)
  clear R1' R0 P0
  go_wp2_with fail
  have D1 : PathD w (w1.alloc (.cells #[.int .i64 q, .int .i64 s, .slice none 0 0, .int .i64 0, .int .i64 0] 27)) B R (p + 3) w1.heap.size q s (.slice none 0 0) [] :=
    ⟨R1.alloc _, P1.lt, P1.keep ((Below.refl _ _).alloc (Nat.le_refl _) _) P1.lt, PathAt.new w1 q s 0 0 _, World.ownsRow_nil _ _ _ _⟩
  clear R1 P1
  refine (pick_any B R (p + 3) 30 _ D1.rd.rd (by omega)).mono ?_
  rintro e w2 ⟨rfl, r2, g2, s2⟩
  have D2 := D1.more r2 g2
  clear D1 r2 g2 s2
  generalize pickV R (p + 3) 30 = t0
  go_wp2_with fail
  refine (pick_any B R (p + 4) 16 _ D2.rd.rd (by omega)).mono ?_
  rintro e w3 ⟨rfl, r3, g3, s3⟩
  have D3 := D2.more r3 g3
  clear D2 r3 g3 s3
  generalize pickV R (p + 4) 16 = x0
  go_wp2_with fail
  refine (pick_any B R (p + 5) 16 _ D3.rd.rd (by omega)).mono ?_
  rintro e w4 ⟨rfl, r4, g4, s4⟩
  have D4 := D3.more r4 g4
  clear D3 r4 g4 s4
  generalize pickV R (p + 5) 16 = y0
  go_wp2_with fail
  refine (pick_any B R (p + 6) 4 _ D4.rd.rd (by omega)).mono ?_
  rintro e w5 ⟨rfl, r5, g5, s5⟩
  have D5 := D4.more r5 g5
  clear D4 r5 g5 s5
  generalize pickV R (p + 6) 4 = lo0
  go_wp2_with fail
  refine (pick_any B R (p + 7) 8 _ D5.rd.rd (by omega)).mono ?_
  rintro e w6 ⟨rfl, r6, g6, s6⟩
  have D6 := D5.more r6 g6
  obtain ⟨a1, a2⟩ := pickV_range (n := 8) h.rng (show p + 7 ≤ 1000000000 by omega) (by omega)
  clear D5 r6 g6 s6
  generalize pickV R (p + 7) 8 = n0 at *
  go_wp2_with fail
  refine (pick_any B R (p + 8) 24 _ D6.rd.rd (by omega)).mono ?_
  rintro e w7 ⟨rfl, r7, g7, s7⟩
  have D7 := D6.more r7 g7
  clear D6 r7 g7 s7
  generalize pickV R (p + 8) 24 = n1
  go_upto_if 28 with (fail)
  go_cut [8] (fun s8 wd => ∃ (n : Nat) (p' : Nat), s8 = .int .i64 (n : Int) ∧ 1 ≤ n ∧ n ≤ 40 ∧ p' ≤ p + 10 ∧ PathD w wd B R p' w1.heap.size q s (.slice none 0 0) [])
  case first =>
    by_cases h0 : n1 = 0
    · subst h0
      go_wp2_with fail
      refine (pick_any B R (p + 9) 2 _ D7.rd.rd (by omega)).mono ?_
      rintro e w8 ⟨rfl, r8, g8, s8⟩
      have D8 := D7.more r8 g8
      obtain ⟨b1, b2⟩ := pickV_range (n := 2) h.rng (show p + 9 ≤ 1000000000 by omega) (by omega)
      generalize pickV R (p + 9) 2 = n2 at *
      clear r8 g8 s8
      go_wp2
      go_meet
      case rel => exact ⟨(40 - n2).toNat, p + 10, by rw [Int.toNat_of_nonneg (by omega)], by omega, by omega, by omega, D8⟩
    · have h1 : (n1 == 0) = false := beq_eq_false_iff_ne.2 h0
      go_wp2
      go_meet
      case rel => exact ⟨(1 + n0).toNat, p + 9, by rw [Int.toNat_of_nonneg (by omega)], by omega, by omega, by omega, D7⟩
  case rest =>
    obtain ⟨n, p1, rfl, hn1, hn2, hp1, D8⟩ := hcut
    clear D7 a1 a2
    go_wp2
    go_loopw [4, 5, 6, 7, 9] (fun s4 s5 s6 s7 s9 wr => ∃ (t x y lo : Int) (k p' : Nat) (v : Value) (l : List Stp), s4 = .int .i64 t ∧ s5 = .int .i64 x ∧ s6 = .int .i64 y ∧ s7 = .int .i64 lo ∧ s9 = .int .i64 (k : Int) ∧ k ≤ n ∧ l.length = k ∧ p' ≤ p1 + 60 * k ∧ PathD w wr B R p' w1.heap.size q s v l) (fun _ _ _ _ s9 _ => n - (intOf s9).toNat)
    case atStart => exact ⟨t0, x0, y0, lo0, 0, p1, _, [], rfl, rfl, rfl, rfl, rfl, by omega, rfl, by omega, D8⟩
    case round =>
      obtain ⟨t, x, y, lo, k, p', v, l, rfl, rfl, rfl, rfl, rfl, hk, hlk, hp', D1⟩ := hrel
      subst hlk
      clear D8
      by_cases hlt : l.length < n
      · have k0 : (0 : Int) ≤ (l.length : Int) := by omega
        have k1 : (l.length : Int) < (n : Int) := by omega
        go_wp2_with fail
        refine (pick_any B R p' 3 _ D1.rd.rd (by omega)).mono ?_
        rintro e w2 ⟨rfl, r2, g2, s2⟩
        have D2 := D1.more r2 g2
        clear D1 r2 g2 s2
        generalize pickV R p' 3 = m1
        go_wp2_with fail
        refine (pick_any B R (p' + 1) 6 _ D2.rd.rd (by omega)).mono ?_
        rintro e w3 ⟨rfl, r3, g3, s3⟩
        have D3 := D2.more r3 g3
        clear D2 r3 g3 s3
        generalize pickV R (p' + 1) 6 = m2
        go_wp2_with fail
        refine (less_any t m2 _).mono ?_
        rintro e wx ⟨rfl, rfl⟩
        generalize lessV t m2 = fr
        go_wp2_with fail
        refine (pick_any B R (p' + 2) 8 _ D3.rd.rd (by omega)).mono ?_
        rintro e w4 ⟨rfl, r4, g4, s4⟩
        have D4 := D3.more r4 g4
        clear D3 r4 g4 s4
        generalize pickV R (p' + 2) 8 = m3
        go_wp2_with fail
        refine (pick_any B R (p' + 3) 6 _ D4.rd.rd (by omega)).mono ?_
        rintro e w5 ⟨rfl, r5, g5, s5⟩
        have D5 := D4.more r5 g5
        clear D4 r5 g5 s5
        generalize pickV R (p' + 3) 6 = m4
        go_wp2_with fail
        generalize wrap64 (lo + m1) = hi
        generalize wrap64 (t + m3) = by_
        generalize (m4 == 0) = ho
        have D6 := D5.alloc (.cells #[.int .i64 x, .int .i64 y, .int .i64 lo, .int .i64 hi, .int .i64 fr, .int .i64 by_, .bool ho] 44)
        have bS := heap_alloc_new w5 (.cells #[.int .i64 x, .int .i64 y, .int .i64 lo, .int .i64 hi, .int .i64 fr, .int .i64 by_, .bool ho] 44)
        have vS : ∀ j, v.ownBlock = some j → j ≠ w5.heap.size := fun j hj => by have := owns_lt D5.own j hj; omega
        have pS := D5.pa.lt
        clear D5
        refine (pick_any B R (p' + 4) 3 _ D6.rd.rd (by omega)).mono ?_
        rintro e w6 ⟨rfl, r6, g6, s6⟩
        have D7 := D6.more r6 g6
        have bS6 := D6.rd.keep bS (by have := D6.rd.lt; have := D6.ge; omega) g6
        clear D6 r6 g6 s6 bS
        generalize w5.heap.size = S at *
        generalize pickV R (p' + 4) 3 = m5
        go_upto_if 58 with (fail)
        go_cut [] (fun wd => ∃ (fr by_ : Int) (p2 : Nat), p2 ≤ p' + 6 ∧ PathD w wd B R p2 w1.heap.size q s v l ∧ wd.heap[S]? = some (.cells #[.int .i64 x, .int .i64 y, .int .i64 lo, .int .i64 hi, .int .i64 fr, .int .i64 by_, .bool ho] 44 (0, 0)))
        case first =>
          obtain ⟨⟨c0, c1, c2, c3, c4, c5, c6⟩, cf⟩ := blk7 bS6
          by_cases h0 : m5 = 0
          · subst h0
            have D8 := D7.set pS vS 4 (.int .i64 0)
            have bS8 := blk7_set bS6 4 (.int .i64 0)
            simp only [List.setIfInBounds_toArray, List.set_cons_succ, List.set_cons_zero] at bS8
            go_wp2_with fail
            refine (pick_any B R (p' + 5) 90 _ D8.rd.rd (by omega)).mono ?_
            rintro e w8 ⟨rfl, r8, g8, s8⟩
            have D9 := D8.more r8 g8
            have bS9 := D8.rd.keep bS8 (by have := D8.rd.lt; have := D8.ge; omega) g8
            clear D8 r8 g8 s8 bS8 D7 bS6 c0 c1 c2 c3 c4 c5 c6 cf
            generalize pickV R (p' + 5) 90 = m6
            obtain ⟨⟨c0, c1, c2, c3, c4, c5, c6⟩, cf⟩ := blk7 bS9
            go_wp2
            generalize wrap64 (t + m6) = b2
            have bS10 := blk7_set bS9 5 (.int .i64 b2)
            simp only [List.setIfInBounds_toArray, List.set_cons_succ, List.set_cons_zero] at bS10
            go_meet
            case rel => exact ⟨0, b2, p' + 6, by omega, D9.set pS vS 5 (.int .i64 b2), bS10⟩
          · have h1 : (m5 == 0) = false := beq_eq_false_iff_ne.2 h0
            go_wp2
            go_meet
            case rel => exact ⟨fr, by_, p' + 5, by omega, D7, bS6⟩
        case rest =>
          obtain ⟨fr', by', p2, hp2, D8, bS8⟩ := hcut
          clear D7 bS6
          obtain ⟨⟨c0, c1, c2, c3, c4, c5, c6⟩, cf⟩ := blk7 bS8
          obtain ⟨⟨e0, e1, e2, e3, e4⟩, ef⟩ := D8.pa.cells
          have D9 := D8.alloc (.cells #[.int .i64 x, .int .i64 y, .int .i64 lo, .int .i64 hi, .int .i64 fr', .int .i64 by', .bool ho] 44)
          have bS9 := (Below.heap_alloc wc (.cells #[.int .i64 x, .int .i64 y, .int .i64 lo, .int .i64 hi, .int .i64 fr', .int .i64 by', .bool ho] 44) S (lt_of_block bS8)).trans bS8
          have hnew := seven_new wc ⟨x, y, lo, hi, fr', by', ho⟩ 44
          have hPs := D8.pa.lt
          have hw1 : w1.heap.size < wc.heap.size := hPs
          have hlen40 : l.length ≤ 40 := by omega
          have hzz := D8.rd.size
          have hvP : v.ownBlock ≠ some w1.heap.size := fun e => by have := owns_base D8.own _ e; omega
          go_wp2_with (at_builtin; refine wpList_append_own _ rfl (.tmp 66) (.tmp 68) 25 rfl (w1.heap.size + 1) 44 i0 (.agg #[.int .i64 0, .int .i64 0, .int .i64 0, .int .i64 0, .int .i64 0, .int .i64 0, .bool false]) 7 56 Tryz.underlying25 hinf hz0 hz1 hz2 rfl (by decide) v l.length (stepCells l) rfl D9.own ⟨wc.heap.size, 0, none⟩ 1 1 (Stp.cells ⟨x, y, lo, hi, fr', by', ho⟩) rfl rfl hnew (by simp [Value.oneCell']) (by unfold maxLen; omega) (by omega) (by simp; omega) ?_; intro v6 w6 hown6 hgrow6 hnil6; obtain ⟨g6, gc6, rfl, _, _⟩ := owns_some hown6 (by omega); obtain ⟨⟨_, _, f2, _, _⟩, ff⟩ := (D9.pa.grown hgrow6 hvP).cells)
          have D10 := D9.append (t := ⟨x, y, lo, hi, fr', by', ho⟩) hown6 hgrow6
          have bS10 : (w6.setCell ⟨w1.heap.size, 2, none⟩ (.slice (some ⟨g6, 0, none⟩) (l.length + 1) gc6)).heap[S]? = some (.cells #[.int .i64 x, .int .i64 y, .int .i64 lo, .int .i64 hi, .int .i64 fr', .int .i64 by', .bool ho] 44 (0, 0)) := by
            rw [heap_setCell_other w6 ⟨w1.heap.size, 2, none⟩ S _ (by show S ≠ w1.heap.size; omega)]
            exact (hgrow6.block S (lt_of_block bS9) (fun e => (vS S e.symm) rfl)).trans bS9
          clear hown6 hgrow6 hnil6 D9 bS9 hnew c0 c1 c2 c3 c4 c5 c6 cf e0 e1 e2 e3 e4 ef D8 bS8 vS hvP f2 ff
          generalize (w6.setCell ⟨w1.heap.size, 2, none⟩ (.slice (some ⟨g6, 0, none⟩) (l.length + 1) gc6)) = W at *
          have D11 : PathD w W B R p2 w1.heap.size q s (.slice (some ⟨g6, 0, none⟩) (l.length + 1) gc6) (l ++ [⟨x, y, lo, hi, fr', by', ho⟩]) := D10
          clear D10
          obtain ⟨⟨e0, e1, e2, e3, e4⟩, ef⟩ := D11.pa.cells
          have hPB : w1.heap.size ≠ B := by have := D11.rd.lt; have := D11.ge; omega
          have hSB : S ≠ B := by have := D11.rd.lt; have := D11.ge; omega
          have qn := ClsR.any W B
          have q0 : ∀ u : ClsR W B, u.it.cell? ⟨w1.heap.size, 0, none⟩ = some (.int .i64 q) := fun u => (ClsR.cell D11.pa.lt hPB u 0).trans e0
          have q1 : ∀ u : ClsR W B, u.it.cell? ⟨w1.heap.size, 1, none⟩ = some (.int .i64 s) := fun u => (ClsR.cell D11.pa.lt hPB u 1).trans e1
          refine region_picks 12 15 _ _ D11.rd.rd (by kernel_rfl) (by kernel_rfl) (by decide) (by decide) rfl rfl rfl (by kernel_rfl) ?_
          refine pc_quiet 12 rfl (by omega) ?_
          simp only [List.take_succ_cons, List.take_zero]
          repeat (go_big_quiet_step (fail))
          refine wpQuiet_nil ?_
          simp only [List.drop_succ_cons, List.drop_zero]
          refine pc_pick (by omega) rfl (wrap64 (wrap64 (s - q) + 1)) (fun W' => by go_simp) ?_
          generalize pickV R p2 (wrap64 (wrap64 (s - q) + 1)) = m7
          simp only [Act.put, List.setIfInBounds_toArray, List.set_cons_succ, List.set_cons_zero]
          refine pc_quiet 2 rfl (by omega) ?_
          simp only [List.take_succ_cons, List.take_zero]
          repeat (go_big_quiet_step (fail))
          refine wpQuiet_nil ?_
          refine wpMoves_nil ?_
          intro w8 g8 s8 r8
          have D12 := D11.more r8 g8
          have bS12 := D11.rd.keep bS10 hSB g8
          clear q0 q1 qn e0 e1 e2 e3 e4 ef D11 bS10 r8 g8 s8
          refine any_end0 (by kernel_rfl) ?_
          generalize wrap64 (q + m7) = stay
          cases ho with
          | false =>
            obtain ⟨⟨c0, c1, c2, c3, c4, c5, c6⟩, cf⟩ := blk7 bS12
            go_wp2_with fail
            refine (step_draw B R (p2 + 1) x y _ D12.rd.rd (by omega)).mono ?_
            rintro e w20 ⟨cx, cy, p20, rfl, hp20, R20⟩
            have D20 := D12.more R20.rd R20.gr
            have bS20 := D12.rd.keep bS12 hSB R20.gr
            clear R20 D12 bS12
            go_wp2
            obtain ⟨⟨c0, c1, c2, c3, c4, c5, c6⟩, cf⟩ := blk7 bS20
            have qn := ClsR.any w20 B
            have q0 : ∀ u : ClsR w20 B, u.it.cell? ⟨S, 3, none⟩ = some (.int .i64 hi) := fun u => (ClsR.cell (lt_of_block bS20) hSB u 3).trans c3
            refine region_picks 3 6 _ _ D20.rd.rd (by kernel_rfl) (by kernel_rfl) (by decide) (by decide) rfl rfl rfl (by kernel_rfl) ?_
            refine pc_quiet 3 rfl (by omega) ?_
            simp only [List.take_succ_cons, List.take_zero]
            repeat (go_big_quiet_step (fail))
            refine wpQuiet_nil ?_
            simp only [List.drop_succ_cons, List.drop_zero]
            refine pc_pick (by omega) rfl 2 (fun W' => by go_simp) ?_
            generalize pickV R p20 2 = m20
            simp only [Act.put, List.setIfInBounds_toArray, List.set_cons_succ, List.set_cons_zero]
            refine pc_pure (f := 111) (args := #[.int .i64 hi, .int .i64 m20]) (.int .i64 (lessV hi m20)) rfl (by decide) (fun W' => by go_simp) (fun W' => less_any hi m20 W') ?_
            generalize lessV hi m20 = lo2
            simp only [Act.put, List.setIfInBounds_toArray, List.set_cons_succ, List.set_cons_zero]
            refine pc_quiet 1 rfl (by omega) ?_
            simp only [List.take_succ_cons, List.take_zero]
            repeat (go_big_quiet_step (fail))
            refine wpQuiet_nil ?_
            refine wpMoves_nil ?_
            intro w21 g21 s21 r21
            have D21 := D20.more r21 g21
            clear q0 qn c0 c1 c2 c3 c4 c5 c6 cf D20 bS20 r21 g21 s21
            refine any_end0 (by kernel_rfl) ?_
            by_cases hlow : 3 < lo2
            · go_wp2
              go_roundw
              case rel => exact ⟨_, _, _, _, l.length + 1, p20 + 1, _, _, rfl, rfl, rfl, rfl, by simp, by omega, by simp, by omega, D21⟩
              case measure => simp [intOf]; omega
            · go_wp2
              go_roundw
              case rel => exact ⟨_, _, _, _, l.length + 1, p20 + 1, _, _, rfl, rfl, rfl, rfl, by simp, by omega, by simp, by omega, D21⟩
              case measure => simp [intOf]; omega
          | true =>
            obtain ⟨⟨c0, c1, c2, c3, c4, c5, c6⟩, cf⟩ := blk7 bS12
            go_wp2_with fail
            refine (pick_any B R (p2 + 1) 2 _ D12.rd.rd (by omega)).mono ?_
            rintro e w13 ⟨rfl, r13, g13, s13⟩
            have D13 := D12.more r13 g13
            have bS13 := D12.rd.keep bS12 hSB g13
            clear D12 bS12 r13 g13 s13 c0 c1 c2 c3 c4 c5 c6 cf
            generalize pickV R (p2 + 1) 2 = m8
            by_cases h0 : m8 = 0
            · subst h0
              go_wp2
              obtain ⟨⟨e0, e1, e2, e3, e4⟩, ef⟩ := D13.pa.cells
              have qn := ClsR.any w13 B
              have q0 : ∀ u : ClsR w13 B, u.it.cell? ⟨w1.heap.size, 0, none⟩ = some (.int .i64 q) := fun u => (ClsR.cell D13.pa.lt hPB u 0).trans e0
              refine region_picks 4 7 _ _ D13.rd.rd (by kernel_rfl) (by kernel_rfl) (by decide) (by decide) rfl rfl rfl (by kernel_rfl) ?_
              refine pc_quiet 4 rfl (by omega) ?_
              simp only [List.take_succ_cons, List.take_zero]
              repeat (go_big_quiet_step (fail))
              refine wpQuiet_nil ?_
              simp only [List.drop_succ_cons, List.drop_zero]
              refine pc_pick (by omega) rfl 20 (fun W' => by go_simp) ?_
              generalize pickV R (p2 + 1 + 1) 20 = m9
              simp only [Act.put, List.setIfInBounds_toArray, List.set_cons_succ, List.set_cons_zero]
              refine pc_quiet 2 rfl (by omega) ?_
              simp only [List.take_succ_cons, List.take_zero]
              repeat (go_big_quiet_step (fail))
              refine wpQuiet_nil ?_
              refine wpMoves_nil ?_
              intro w14 g14 s14 r14
              have D14 := D13.more r14 g14
              have bS14 := D13.rd.keep bS13 hSB g14
              clear q0 qn e0 e1 e2 e3 e4 ef D13 bS13 r14 g14 s14
              refine any_end0 (by kernel_rfl) ?_
              generalize wrap64 (q + m9) = stay2
              go_wp2_with fail
              refine (step_draw B R (p2 + 1 + 1 + 1) x y _ D14.rd.rd (by omega)).mono ?_
              rintro e w20 ⟨cx, cy, p20, rfl, hp20, R20⟩
              have D20 := D14.more R20.rd R20.gr
              have bS20 := D14.rd.keep bS14 hSB R20.gr
              clear R20 D14 bS14
              go_wp2
              obtain ⟨⟨c0, c1, c2, c3, c4, c5, c6⟩, cf⟩ := blk7 bS20
              have qn := ClsR.any w20 B
              have q0 : ∀ u : ClsR w20 B, u.it.cell? ⟨S, 3, none⟩ = some (.int .i64 hi) := fun u => (ClsR.cell (lt_of_block bS20) hSB u 3).trans c3
              refine region_picks 3 6 _ _ D20.rd.rd (by kernel_rfl) (by kernel_rfl) (by decide) (by decide) rfl rfl rfl (by kernel_rfl) ?_
              refine pc_quiet 3 rfl (by omega) ?_
              simp only [List.take_succ_cons, List.take_zero]
              repeat (go_big_quiet_step (fail))
              refine wpQuiet_nil ?_
              simp only [List.drop_succ_cons, List.drop_zero]
              refine pc_pick (by omega) rfl 2 (fun W' => by go_simp) ?_
              generalize pickV R p20 2 = m20
              simp only [Act.put, List.setIfInBounds_toArray, List.set_cons_succ, List.set_cons_zero]
              refine pc_pure (f := 111) (args := #[.int .i64 hi, .int .i64 m20]) (.int .i64 (lessV hi m20)) rfl (by decide) (fun W' => by go_simp) (fun W' => less_any hi m20 W') ?_
              generalize lessV hi m20 = lo2
              simp only [Act.put, List.setIfInBounds_toArray, List.set_cons_succ, List.set_cons_zero]
              refine pc_quiet 1 rfl (by omega) ?_
              simp only [List.take_succ_cons, List.take_zero]
              repeat (go_big_quiet_step (fail))
              refine wpQuiet_nil ?_
              refine wpMoves_nil ?_
              intro w21 g21 s21 r21
              have D21 := D20.more r21 g21
              clear q0 qn c0 c1 c2 c3 c4 c5 c6 cf D20 bS20 r21 g21 s21
              refine any_end0 (by kernel_rfl) ?_
              by_cases hlow : 3 < lo2
              · go_wp2
                go_roundw
                case rel => exact ⟨_, _, _, _, l.length + 1, p20 + 1, _, _, rfl, rfl, rfl, rfl, by simp, by omega, by simp, by omega, D21⟩
                case measure => simp [intOf]; omega
              · go_wp2
                go_roundw
                case rel => exact ⟨_, _, _, _, l.length + 1, p20 + 1, _, _, rfl, rfl, rfl, rfl, by simp, by omega, by simp, by omega, D21⟩
                case measure => simp [intOf]; omega
            · have h1 : (m8 == 0) = false := beq_eq_false_iff_ne.2 h0
              go_wp2_with fail
              refine (step_draw B R (p2 + 1 + 1) x y _ D13.rd.rd (by omega)).mono ?_
              rintro e w20 ⟨cx, cy, p20, rfl, hp20, R20⟩
              have D20 := D13.more R20.rd R20.gr
              have bS20 := D13.rd.keep bS13 hSB R20.gr
              clear R20 D13 bS13
              go_wp2
              obtain ⟨⟨c0, c1, c2, c3, c4, c5, c6⟩, cf⟩ := blk7 bS20
              have qn := ClsR.any w20 B
              have q0 : ∀ u : ClsR w20 B, u.it.cell? ⟨S, 3, none⟩ = some (.int .i64 hi) := fun u => (ClsR.cell (lt_of_block bS20) hSB u 3).trans c3
              refine region_picks 3 6 _ _ D20.rd.rd (by kernel_rfl) (by kernel_rfl) (by decide) (by decide) rfl rfl rfl (by kernel_rfl) ?_
              refine pc_quiet 3 rfl (by omega) ?_
              simp only [List.take_succ_cons, List.take_zero]
              repeat (go_big_quiet_step (fail))
              refine wpQuiet_nil ?_
              simp only [List.drop_succ_cons, List.drop_zero]
              refine pc_pick (by omega) rfl 2 (fun W' => by go_simp) ?_
              generalize pickV R p20 2 = m20
              simp only [Act.put, List.setIfInBounds_toArray, List.set_cons_succ, List.set_cons_zero]
              refine pc_pure (f := 111) (args := #[.int .i64 hi, .int .i64 m20]) (.int .i64 (lessV hi m20)) rfl (by decide) (fun W' => by go_simp) (fun W' => less_any hi m20 W') ?_
              generalize lessV hi m20 = lo2
              simp only [Act.put, List.setIfInBounds_toArray, List.set_cons_succ, List.set_cons_zero]
              refine pc_quiet 1 rfl (by omega) ?_
              simp only [List.take_succ_cons, List.take_zero]
              repeat (go_big_quiet_step (fail))
              refine wpQuiet_nil ?_
              refine wpMoves_nil ?_
              intro w21 g21 s21 r21
              have D21 := D20.more r21 g21
              clear q0 qn c0 c1 c2 c3 c4 c5 c6 cf D20 bS20 r21 g21 s21
              refine any_end0 (by kernel_rfl) ?_
              by_cases hlow : 3 < lo2
              · go_wp2
                go_roundw
                case rel => exact ⟨_, _, _, _, l.length + 1, p20 + 1, _, _, rfl, rfl, rfl, rfl, by simp, by omega, by simp, by omega, D21⟩
                case measure => simp [intOf]; omega
              · go_wp2
                go_roundw
                case rel => exact ⟨_, _, _, _, l.length + 1, p20 + 1, _, _, rfl, rfl, rfl, rfl, by simp, by omega, by simp, by omega, D21⟩
                case measure => simp [intOf]; omega
      · go_wp2_with fail
        refine (pick_any B R p' 5 _ D1.rd.rd (by omega)).mono ?_
        rintro e w2 ⟨rfl, r2, g2, s2⟩
        have D2 := D1.more r2 g2
        clear D1 r2 g2 s2
        generalize pickV R p' 5 = m1
        go_wp2_with fail
        refine (less_any t m1 _).mono ?_
        rintro e wx ⟨rfl, rfl⟩
        generalize lessV t m1 = fr
        obtain ⟨⟨e0, e1, e2, e3, e4⟩, ef⟩ := D2.pa.cells
        go_wp2_with fail
        have hge := D2.ge
        have R3 := D2.rd.set (show w.heap.size ≤ w1.heap.size by omega) 3 (.int .i64 fr)
        have P3 : PathAt (wx.setCell ⟨w1.heap.size, 3, none⟩ (.int .i64 fr)) w1.heap.size q s fr 0 v := ⟨by rw [heap_setCell_same _ _ 3 _ _ _ D2.pa.it]; rfl⟩
        have Q3 := D2.res.set (p := ⟨w1.heap.size, 3, none⟩) (by show w.heap.size ≠ w1.heap.size; omega) (.int .i64 fr)
        have hvb := owns_base D2.own
        have O3 := owns_set D2.own (B := w1.heap.size) (fun k e => by have := hvb k e; omega) 3 (.int .i64 fr)
        clear D2 e0 e1 e2 e3 e4 ef
        generalize wx.setCell ⟨w1.heap.size, 3, none⟩ (.int .i64 fr) = W3 at *
        refine (pick_any B R (p' + 1) 9 _ R3.rd (by omega)).mono ?_
        rintro e w4 ⟨rfl, r4, g4, s4⟩
        have hlt1 := R3.lt
        have R4 := R3.more r4 g4
        have P4 := P3.grown g4 (by simp; omega)
        have Q4 := Q3.grown g4 (by simp; omega)
        have O4 := owns_grown O3 g4 (fun k e => by cases e; omega)
        clear R3 P3 Q3 O3 r4 g4 s4
        generalize pickV R (p' + 1) 9 = m2
        obtain ⟨⟨e0, e1, e2, e3, e4⟩, ef⟩ := P4.cells
        obtain ⟨⟨f0, f1, f2, f3, f4⟩, ff⟩ := Q4.cells
        obtain ⟨g6, gc6, rfl, hg1, hg2⟩ := owns_some O4 (by omega)
        go_wp2
        generalize wrap64 (t + m2) = b
        refine bodyPost_ret (v := .agg #[.int .i64 q, .int .i64 s, .slice (some ⟨g6, 0, none⟩) l.length gc6, .int .i64 fr, .int .i64 b]) (by simp [results, Tryz.results79, go_sem, *]) rfl ⟨q, s, fr, b, _, l, p' + 2, rfl, by omega, by omega, ?_, by omega, ?_⟩
        · have hh : ∀ k, (Value.slice (some ⟨g6, 0, none⟩) l.length gc6).ownBlock = some k → k ≠ w.heap.size ∧ k ≠ w1.heap.size := fun k e => by simp [Value.ownBlock] at e; omega
          iterate 6 (refine owns_set ?_ (fun k e => by first | exact (hh k e).1 | exact (hh k e).2) _ _)
          exact ⟨O4.1, O4.2.imp id fun ⟨g, cap, cur, h1, h2, h3⟩ => ⟨g, cap, cur, h1, by omega, h3⟩⟩
        · iterate 6 (refine RdW.set ?_ (by omega) _ _)
          exact R4
end Go.Proofs.YtijcdikekgmfoaaGreatDoor

namespace Go.Proofs.YtijcdikekgmfoaaGreatDoor
open Go.RowKit

/-- The worlds in which all that lay in w, but block B, lies as it lay, and the next block is the list. -/
structure ClsN (w : World) (B : Nat) (zs : Array Value) (T : TypeId) where
  it : World
  same : w.grownBy it (some B)
  new : it.heap[w.heap.size]? = some (.cells zs T (0, 0))
theorem ClsN.any (w : World) (B : Nat) (zs : Array Value) (T : TypeId) : Nonempty (ClsN w B zs T) :=
  ⟨⟨w.alloc (.cells zs T), ⟨rfl, rfl, rfl, by simp, fun k hk _ => Below.heap_alloc w _ k hk⟩, heap_alloc_new w _⟩⟩
theorem ClsN.cell {w : World} {B b : Nat} {zs : Array Value} {T : TypeId} (hb : b < w.heap.size) (hne : b ≠ B) (u : ClsN w B zs T) (o : Nat) : u.it.cell? ⟨b, o, none⟩ = w.cell? ⟨b, o, none⟩ :=
  World.cell?_of_block (w := w) (u.same.block b hb (fun e => hne (by cases e; rfl)))
theorem ClsN.at_ {w : World} {B : Nat} {zs : Array Value} {T : TypeId} (u : ClsN w B zs T) (o : Nat) : u.it.cell? ⟨w.heap.size, o, none⟩ = zs[o]? := cell_of_row u.it _ o zs T _ u.new

structure MixC (w : World) (B : Nat) (R : Rdr) (p c s : Nat) (zs : Array Value) (T : TypeId) (L : Array Bool) (w' : World) : Prop where
  lt : B < w.heap.size
  gr : w.grownBy w' (some B)
  sz : w'.heap.size = w.heap.size + (if L.getD s false then 1 else 0)
  rd : RdAt w' B R (if L.getD c false then p + 1 else p)
  new : L.getD s false = true → w'.heap[w.heap.size]? = some (.cells zs T (0, 0))

section
variable {Q : Exit → Act → World → Prop} {w : World} {B : Nat} {R : Rdr} {p : Nat} {n : Int} {c s : Nat} {zs : Array Value} {T : TypeId} {ops : Array Oper} {fin : Act → Prop}

theorem MixC.other {w' : World} {j : Nat} {L : Array Bool} (h : MixC w B R p c s zs T L w') (hj : j ≠ c) (hs : j ≠ s) : MixC w B R p c s zs T (L.setIfInBounds j true) w' :=
  ⟨h.lt, h.gr, by rw [getD_set_ne false hs]; exact h.sz, by rw [getD_set_ne false hj]; exact h.rd, by rw [getD_set_ne false hs]; exact h.new⟩

theorem region_mixes {id : Nat} {a : Act} {l : List Oper} (c s N : Nat) (zs : Array Value) (T : TypeId) (L0 L1 : Array Bool) (hRd : RdAt w B R p) (hm : Tryz.prog.follows .mixedOrders = true) (hs : Region.noSelect l.toArray = true) (hN : N ≤ l.length) (hcN : c < N) (hsN : s < N)
    (hL0 : Array.replicate l.length false = L0) (hL1 : listN L0 0 N = L1) (hc1 : L1.getD c false = true) (hs1 : L1.getD s false = true) (hlex : lexM .any l.toArray N N 0 L0 = true)
    (h : wpMoves Tryz.prog .any l.toArray (MixC w B R p c s zs T) (fun a' => ∀ w', w.grownBy w' (some B) → w'.heap.size = w.heap.size + 1 → RdAt w' B R (p + 1) → w'.heap[w.heap.size]? = some (.cells zs T (0, 0)) → wpAny Tryz.prog .any l.toArray Q (l.length - N) L1 a' w') (l.take N) 0 a) :
    (Code.region id l.toArray true).wp Tryz.prog Q a w := by
  have hL0c : ∀ j, j < N → L0.getD j false = false := fun j hj => by
    rw [← hL0]
    simp [show j < l.length by omega]
  refine wp_region_moves_at (C := MixC w B R p c s zs T) N L0 L1 hm hs (by simpa using hN) (by simpa using hL0) hL1 hlex ⟨lt_of_block hRd.blk, grown_drew (grown_refl _ _), by rw [hL0c s hsN]; rfl, by rw [hL0c c hcN]; exact hRd.below (k := B + 1) ⟨rfl, rfl, rfl, Nat.le_refl _, fun _ _ => rfl⟩ (Nat.lt_succ_self _), by rw [hL0c s hsN]; intro h; cases h⟩ ?_
  refine wpMoves_mono (fun a' h' w' hC => ?_) _ _ _ h
  have hrd := hC.rd
  have hsz := hC.sz
  rw [hc1] at hrd
  rw [hs1] at hsz
  have h4 := h' w' hC.gr hsz (by simpa using hrd) (hC.new hs1)
  simpa using h4

/-- m operations that only read. -/
theorem mx_quiet {l : List Oper} {k : Nat} {a : Act} (m : Nat) (hp : ((l.take m).all fun o => plainOp o.op) = true) (hk : c < k ∨ k + m ≤ c) (hks : s < k ∨ k + m ≤ s)
    (h : wpQuiet Tryz.prog ops (fun w' => ∃ u : ClsR w B, w' = u.it) (fun a' => wpMoves Tryz.prog .any ops (MixC w B R p c s zs T) fin (l.drop m) (k + (l.take m).length) a') (l.take m) a) : wpMoves Tryz.prog .any ops (MixC w B R p c s zs T) fin l k a := by
  have hU : ∀ (L : Array Bool) (w' : World), (∀ j ∈ ([] : List Nat), L.getD j false = true) → MixC w B R p c s zs T L w' → ∃ u : ClsR w B, w' = u.it := fun L w' _ h => ⟨⟨w', h.gr⟩, rfl⟩
  have hlm : (l.take m).length ≤ m := by simp; omega
  rw [← List.take_append_drop m l]
  exact moves_quiet (U := fun w' => ∃ u : ClsR w B, w' = u.it) [] hU (l.take m) k a hp (by simp) (fun j h1 h2 L w' hC => hC.other (by omega) (by omega)) h

/-- m operations that only read, the list being there. -/
theorem mx_after {l : List Oper} {k : Nat} {a : Act} (m : Nat) (hp : ((l.take m).all fun o => plainOp o.op) = true) (hk : c < k ∨ k + m ≤ c) (hks : s < k ∨ k + m ≤ s) (hw : ((List.range (l.take m).length).all fun j => [s].all fun s => waitT .any ops 12 (k + j) s) = true)
    (h : wpQuiet Tryz.prog ops (fun w' => ∃ u : ClsN w B zs T, w' = u.it) (fun a' => wpMoves Tryz.prog .any ops (MixC w B R p c s zs T) fin (l.drop m) (k + (l.take m).length) a') (l.take m) a) : wpMoves Tryz.prog .any ops (MixC w B R p c s zs T) fin l k a := by
  have hU : ∀ (L : Array Bool) (w' : World), (∀ j ∈ [s], L.getD j false = true) → MixC w B R p c s zs T L w' → ∃ u : ClsN w B zs T, w' = u.it := fun L w' hs h => ⟨⟨w', h.gr, h.new (hs s (by simp))⟩, rfl⟩
  have hlm : (l.take m).length ≤ m := by simp; omega
  rw [← List.take_append_drop m l]
  exact moves_quiet (U := fun w' => ∃ u : ClsN w B zs T, w' = u.it) [s] hU (l.take m) k a hp hw (fun j h1 h2 L w' hC => hC.other (by omega) (by omega)) h

theorem not_yet {i : Nat} {L : Array Bool} (hr : i ∈ Region.ready .any ops L) : L.getD i false = false ∧ i < L.size := by
  have := (mem_ready.1 hr).1
  rcases Nat.lt_or_ge i L.size with h' | h'
  · exact ⟨by simp [h'] at this ⊢; exact this, h'⟩
  · simp [Array.getElem?_eq_none h'] at this

/-- The one that picks. -/
theorem mx_pick {rest : List Oper} {oc : Oper} {a : Act} (hp : p ≤ 1000000000) (hsc : s ≠ c) (hg : oc.guard = none) (n : Int)
    (h1 : ∀ W, (execOp a.eval oc).run Tryz.prog W = .ok (.enter 77 #[.pointer (some ⟨B, 0, none⟩), .int .i64 n]) W)
    (h2 : wpMoves Tryz.prog .any ops (MixC w B R p c s zs T) fin rest (c + 1) (a.put oc.dst (.int .i64 (pickV R p n)))) : wpMoves Tryz.prog .any ops (MixC w B R p c s zs T) fin (oc :: rest) c a := by
  refine moves_one (.int .i64 (pickV R p n)) hg (fun L w' _ hr hC => ?_) h2
  rw [h1]
  obtain ⟨hun, hcs⟩ := not_yet hr
  have hrd := hC.rd
  rw [hun] at hrd
  have hlt := lt_of_block hrd.blk
  refine (pick_any B R p n w' hrd hp).mono ?_
  rintro e w'' ⟨rfl, g1, g2, g3⟩
  refine ⟨rfl, hC.lt, grown_over2 hC.gr g2, by rw [getD_set_ne false (Ne.symm hsc), g3]; exact hC.sz, by simp [hcs]; exact g1, fun hs => ?_⟩
  rw [getD_set_ne false (Ne.symm hsc)] at hs
  have hb := hC.new hs
  exact (g2.block _ (lt_of_block hb) (fun e => by
    have e' : w.heap.size = B := by cases e; rfl
    have := hC.lt
    omega)).trans hb

/-- The list. -/
theorem mx_build {rest : List Oper} {o : Oper} {a : Act} (hsc : s ≠ c) (hg : o.guard = none) (m : Nat)
    (h1 : ∀ W, (execOp a.eval o).run Tryz.prog W = .ok (.value (.slice (some ⟨W.heap.size, 0, none⟩) m m)) (W.alloc (.cells zs T)))
    (h2 : wpMoves Tryz.prog .any ops (MixC w B R p c s zs T) fin rest (s + 1) (a.put o.dst (.slice (some ⟨w.heap.size, 0, none⟩) m m))) : wpMoves Tryz.prog .any ops (MixC w B R p c s zs T) fin (o :: rest) s a := by
  refine moves_one (.slice (some ⟨w.heap.size, 0, none⟩) m m) hg (fun L w' _ hr hC => ?_) h2
  rw [h1]
  obtain ⟨hun, hss⟩ := not_yet hr
  have hsz := hC.sz
  rw [hun] at hsz
  have hsz' : w'.heap.size = w.heap.size := by simpa using hsz
  refine ⟨by rw [hsz'], hC.lt, ⟨hC.gr.os, hC.gr.tape, hC.gr.output, by simp; omega, fun k hk hne => (Below.heap_alloc w' _ k (by omega)).trans (hC.gr.block k hk hne)⟩, by simp [hss]; omega, ?_, fun _ => ?_⟩
  · rw [getD_set_ne false hsc]
    exact hC.rd.below (k := w'.heap.size) ((Below.refl _ _).alloc (Nat.le_refl _) _) (by have := hC.lt; omega)
  · rw [← hsz']
    exact heap_alloc_new w' _
end
end Go.Proofs.YtijcdikekgmfoaaGreatDoor

namespace Go.Proofs.YtijcdikekgmfoaaGreatDoor
open Go.RowKit

theorem cells_put (t : Stp) {j : Nat} (hj : j < 6) (z : Int) : ∃ t' : Stp, t'.cells = t.cells.set j (.int .i64 z) := by
  match j, hj with
  | 0, _ => exact ⟨{ t with x := z }, rfl⟩
  | 1, _ => exact ⟨{ t with y := z }, rfl⟩
  | 2, _ => exact ⟨{ t with lo := z }, rfl⟩
  | 3, _ => exact ⟨{ t with hi := z }, rfl⟩
  | 4, _ => exact ⟨{ t with fr := z }, rfl⟩
  | 5, _ => exact ⟨{ t with by_ := z }, rfl⟩
theorem cells_put6 (t : Stp) (z : Bool) : ∃ t' : Stp, t'.cells = t.cells.set 6 (.bool z) := ⟨{ t with ho := z }, rfl⟩
/-- What lies while a path is spoilt. -/
structure SpD (w wr : World) (B : Nat) (R : Rdr) (p Z X : Nat) (q s fr b : Int) (v : Value) (l : List Stp) : Prop where
  rd : RdW w wr B R p
  ge : w.heap.size ≤ Z
  lt : Z < X
  res : PathAt wr Z 0 0 0 0 (.slice none 0 0)
  pa : PathAt wr X q s fr b v
  own : wr.ownsRow (Z + 1) 44 7 v l.length (stepCells l)
section
variable {w wr w' : World} {B : Nat} {R : Rdr} {p p' Z X : Nat} {q s fr b : Int} {v : Value} {l : List Stp}
theorem SpD.xB (h : SpD w wr B R p Z X q s fr b v l) : X ≠ B ∧ Z ≠ B ∧ B < Z := by
  have h1 := h.rd.lt
  have h2 := h.ge
  have h3 := h.lt
  omega
theorem SpD.gX (h : SpD w wr B R p Z X q s fr b v l) : ∀ k, v.ownBlock = some k → k ≠ X ∧ Z < k := by
  intro k hk
  refine ⟨fun e => ?_, owns_base h.own k hk⟩
  subst e
  rcases h.own.2 with ⟨rfl, _⟩ | ⟨g, cap, cur, rfl, _, hh, _⟩
  · simp [Value.ownBlock] at hk
  · simp [Value.ownBlock] at hk
    subst hk
    rw [h.pa.it] at hh
    have := congrArg (fun o => match o with | some (Obj.cells _ t _) => t | _ => 0) hh
    simp at this
theorem SpD.more (h : SpD w wr B R p Z X q s fr b v l) (hr : RdAt w' B R p') (hg : wr.grownBy w' (some B)) : SpD w w' B R p' Z X q s fr b v l := by
  obtain ⟨h1, h2, h3⟩ := h.xB
  exact ⟨h.rd.more hr hg, h.ge, h.lt, h.res.grown hg (fun e => h2 (by cases e; rfl)), h.pa.grown hg (fun e => h1 (by cases e; rfl)), owns_grown h.own hg (fun k e => by cases e; omega)⟩
theorem SpD.below (h : SpD w wr B R p Z X q s fr b v l) (hb : Below wr.heap.size wr w') : SpD w w' B R p Z X q s fr b v l :=
  ⟨h.rd.below hb, h.ge, h.lt, h.res.keep hb h.res.lt, h.pa.keep hb h.pa.lt, owns_below h.own hb⟩
theorem SpD.alloc (h : SpD w wr B R p Z X q s fr b v l) (ob : Obj) : SpD w (wr.alloc ob) B R p Z X q s fr b v l := h.below ((Below.refl _ _).alloc (Nat.le_refl _) ob)
/-- A field of a step is turned. -/
theorem SpD.put {g gc : Nat} (h : SpD w wr B R p Z X q s fr b (.slice (some ⟨g, 0, none⟩) l.length gc) l) {i j : Nat} {t t' : Stp} {u : Value} (ht : l[i]? = some t) (hj : j < 7) (he : t'.cells = t.cells.set j u) :
    SpD w (wr.setCell ⟨g, i * 7 + j, none⟩ u) B R p Z X q s fr b (.slice (some ⟨g, 0, none⟩) l.length gc) (l.set i t') := by
  obtain ⟨h1, h2⟩ := h.gX g rfl
  have hi : i < l.length := (List.getElem?_eq_some_iff.1 ht).1
  have hge := h.ge
  refine ⟨h.rd.set (by omega) _ u, h.ge, h.lt, h.res.set (by show Z ≠ g; omega) u, h.pa.set (by show X ≠ g; omega) u, ?_⟩
  have h3 := owns_put h.own (j := i * 7 + j) (by omega) u
  rw [stepCells_put l i j t t' u ht hj he] at h3
  simpa using h3
/-- A field of the path is turned. -/
theorem SpD.setX (h : SpD w wr B R p Z X q s fr b v l) (j : Nat) (u : Value) {q' s' fr' b' : Int} {v' : Value} {l' : List Stp}
    (he : #[Value.int .i64 q, .int .i64 s, v, .int .i64 fr, .int .i64 b].setIfInBounds j u = #[.int .i64 q', .int .i64 s', v', .int .i64 fr', .int .i64 b']) (ho : wr.ownsRow (Z + 1) 44 7 v' l'.length (stepCells l')) (hX : ∀ k, v'.ownBlock = some k → k ≠ X) :
    SpD w (wr.setCell ⟨X, j, none⟩ u) B R p Z X q' s' fr' b' v' l' := by
  have hge := h.ge
  have hlt := h.lt
  refine ⟨h.rd.set (by omega) _ u, h.ge, h.lt, h.res.set (by show Z ≠ X; omega) u, ⟨?_⟩, owns_set ho hX j u⟩
  rw [heap_setCell_same _ X j _ _ u h.pa.it, he]
/-- A step comes behind. -/
theorem SpD.append (h : SpD w wr B R p Z X q s fr b v l) {t : Stp} {v' : Value} (ho : w'.ownsRow (Z + 1) 44 7 v' (l.length + 1) (stepCells l ++ t.cells)) (hg : wr.grownBy w' v.ownBlock) :
    PathAt w' X q s fr b v ∧ SpD w (w'.setCell ⟨X, 2, none⟩ v') B R p Z X q s fr b v' (l ++ [t]) := by
  have hge := h.ge
  have hlt := h.lt
  have hgX := h.gX
  have hpa := h.pa.grown hg (fun e => (hgX X e).1 rfl)
  have hnx := row_not_path ho hpa
  refine ⟨hpa, (h.rd.grown hg (fun k e => by have := (hgX k e).2; omega)).set (by omega) 2 v', h.ge, h.lt, (h.res.grown hg (fun e => by have := (hgX _ e).2; omega)).set (by show _ ≠ X; omega) v', ⟨?_⟩, ?_⟩
  · rw [heap_setCell_same _ X 2 _ _ v' hpa.it]; rfl
  · have h1 := owns_set ho hnx 2 v'
    simpa [stepCells] using h1
end

/-- What a path that is spoilt comes to. -/
def SpoilPost (w : World) (B : Nat) (R : Rdr) (p : Nat) (e : Ending) (w' : World) : Prop :=
  ∃ q s fr b v l p', e = .returned (.agg #[.int .i64 q, .int .i64 s, v, .int .i64 fr, .int .i64 b]) ∧ l.length ≤ 41 ∧ w'.ownsRow w.heap.size 44 7 v l.length (stepCells l) ∧ p' ≤ p + 200 ∧ RdW w w' B R p'
theorem SpD.post {w wr : World} {B : Nat} {R : Rdr} {p p' Z X : Nat} {q s fr b : Int} {v : Value} {l : List Stp} (h : SpD w wr B R p' Z X q s fr b v l) (hl : l.length ≤ 41) (hp : p' ≤ p + 200) :
    SpoilPost w B R p (.returned (.agg #[.int .i64 q, .int .i64 s, v, .int .i64 fr, .int .i64 b])) (((((wr.setCell ⟨Z, 0, none⟩ (.int .i64 q)).setCell ⟨Z, 1, none⟩ (.int .i64 s)).setCell ⟨Z, 2, none⟩ v).setCell ⟨Z, 3, none⟩ (.int .i64 fr)).setCell ⟨Z, 4, none⟩ (.int .i64 b)) := by
  have hge := h.ge
  refine ⟨q, s, fr, b, v, l, p', rfl, hl, ?_, hp, ?_⟩
  · have hh : ∀ k, v.ownBlock = some k → k ≠ Z := fun k e => by have := (h.gX k e).2; omega
    iterate 5 (refine owns_set ?_ hh _ _)
    exact ⟨h.own.1, h.own.2.imp id fun ⟨g, cap, cur, h1, h2, h3⟩ => ⟨g, cap, cur, h1, by omega, h3⟩⟩
  · iterate 5 (refine RdW.set ?_ hge _ _)
    exact h.rd
end Go.Proofs.YtijcdikekgmfoaaGreatDoor

namespace Go.Proofs.YtijcdikekgmfoaaGreatDoor
open Go.RowKit

theorem stepCells_app (a b : List Stp) : stepCells (a ++ b) = stepCells a ++ stepCells b := by simp [stepCells]
theorem some_get {α : Type} {r : Option α} {xs : List α} {n i : Nat} (h : r = xs[i]?) (hl : xs.length = n) (hi : i < n) : ∃ y, r = some y :=
  ⟨_, h.trans (List.getElem?_eq_getElem (by omega))⟩

set_option maxRecDepth 20000 in
set_option maxHeartbeats 4000000 in
theorem spoil_0 (B : Nat) (R : Rdr) (p : Nat) (q s fr b : Int) (a : Option Addr) (b0 o cap : Nat) (l : List Stp) (w : World) (h : RdAt w B R p) (hp : p ≤ 999900000) (hl0 : 1 ≤ l.length) (hl : l.length ≤ 40) (hs : StepsAt w a b0 o l) (hm : pickV R (p + 1) 12 = 0) :
    Calls Tryz.prog 78 #[.pointer (some ⟨B, 0, none⟩), .agg #[.int .i64 q, .int .i64 s, .slice a l.length cap, .int .i64 fr, .int .i64 b]] w (SpoilPost w B R p) := by
  have HM : Hid (pickV R (p + 1) 12 = 0) := hm
  clear hm
  have hB := lt_of_block h.blk
  have R0 := ((RdW.refl h).alloc (.cells #[.int .i64 q, .int .i64 s, .slice a l.length cap, .int .i64 fr, .int .i64 b] 27)).alloc (.cells #[.int .i64 0, .int .i64 0, .slice none 0 0, .int .i64 0, .int .i64 0] 27)
  have P0 := PathAt.new (w.alloc (.cells #[.int .i64 q, .int .i64 s, .slice a l.length cap, .int .i64 fr, .int .i64 b] 27)) 0 0 0 0 (.slice none 0 0)
  rw [World.size_alloc] at P0
  go_enter Tryz.func78, Tryz.ntmps78
  go_wp2_with fail
  refine (copyS_any q s fr b a b0 o cap l _ hl0 (by omega) ((hs.alloc _).alloc _)).mono ?_
  rintro e w1 ⟨g, gc, rfl, ho1, hb1⟩
  have R1 := R0.below hb1
  have P1 := P0.keep hb1 P0.lt
  have ho1' : w1.ownsRow (w.heap.size + 1 + 1) 44 7 (.slice (some ⟨g, 0, none⟩) l.length gc) l.length (stepCells l) := by
    have := ho1
    simpa using this
  have D1 : SpD w (w1.alloc (.cells #[.int .i64 q, .int .i64 s, .slice (some ⟨g, 0, none⟩) l.length gc, .int .i64 fr, .int .i64 b] 27)) B R p (w.heap.size + 1) w1.heap.size q s fr b (.slice (some ⟨g, 0, none⟩) l.length gc) l :=
    ⟨R1.alloc _, by omega, P1.lt, P1.keep ((Below.refl _ _).alloc (Nat.le_refl _) _) P1.lt, PathAt.new w1 q s fr b _, owns_below ho1' ((Below.refl _ _).alloc (Nat.le_refl _) _)⟩
  clear R0 P0 R1 P1 ho1 ho1' hb1
  go_wp2_with fail
  refine (pick_any B R p (l.length : Int) _ D1.rd.rd (by omega)).mono ?_
  rintro e w2 ⟨rfl, r2, g2, s2⟩
  have D2 := D1.more r2 g2
  obtain ⟨kn, hkn⟩ : ∃ kn : Nat, pickV R p (l.length : Int) = (kn : Int) := Int.eq_ofNat_of_zero_le (pickV_range h.rng (by omega) (by omega)).1
  have hk := (pickV_range (n := (l.length : Int)) h.rng (show p ≤ 1000000000 by omega) (by omega)).2
  rw [hkn] at hk ⊢
  clear hkn D1 r2 g2 s2
  generalize w1.heap.size = X at *
  have k0 : (0 : Int) ≤ (kn : Int) := by omega
  have hkl : kn < l.length := by omega
  obtain ⟨t, ht⟩ : ∃ t, l[kn]? = some t := ⟨_, List.getElem?_eq_getElem hkl⟩
  have HT : Hid (l[kn]? = some t) := ht
  clear ht
  go_wp2_with fail
  refine (pick_any B R (p + 1) 12 _ D2.rd.rd (by omega)).mono ?_
  rintro e w3 ⟨rfl, r3, g3, s3⟩
  have D3 := D2.more r3 g3
  clear D2 r3 g3 s3
  rw [HM.out]
  go_wp2_with fail
  refine (pick_any B R (p + 2) 5 _ D3.rd.rd (by omega)).mono ?_
  rintro e w4 ⟨rfl, r4, g4, s4⟩
  have D4 := D3.more r4 g4
  clear D3 r4 g4 s4
  generalize pickV R (p + 2) 5 = z
  have D5 := D4.setX 0 (.int .i64 z) (q' := z) (s' := s) (fr' := fr) (b' := b) (v' := .slice (some ⟨g, 0, none⟩) l.length gc) rfl D4.own (fun k e => (D4.gX k e).1)
  obtain ⟨⟨e0, e1, e2, e3, e4⟩, ef⟩ := D4.pa.cells
  obtain ⟨⟨f0, f1, f2, f3, f4⟩, ff⟩ := D4.res.cells
  have hZX : w.heap.size + 1 ≠ X := by have := D4.lt; omega
  go_wp2
  refine bodyPost_ret (v := .agg #[.int .i64 z, .int .i64 s, .slice (some ⟨g, 0, none⟩) l.length gc, .int .i64 fr, .int .i64 b]) (by simp [results, Tryz.results78, go_sem, *]) rfl ?_
  exact D5.post (by omega) (by omega)

set_option maxRecDepth 20000 in
set_option maxHeartbeats 4000000 in
theorem spoil_2 (B : Nat) (R : Rdr) (p : Nat) (q s fr b : Int) (a : Option Addr) (b0 o cap : Nat) (l : List Stp) (w : World) (h : RdAt w B R p) (hp : p ≤ 999900000) (hl0 : 1 ≤ l.length) (hl : l.length ≤ 40) (hs : StepsAt w a b0 o l) (hm : pickV R (p + 1) 12 = 2) :
    Calls Tryz.prog 78 #[.pointer (some ⟨B, 0, none⟩), .agg #[.int .i64 q, .int .i64 s, .slice a l.length cap, .int .i64 fr, .int .i64 b]] w (SpoilPost w B R p) := by
  have HM : Hid (pickV R (p + 1) 12 = 2) := hm
  clear hm
  have hB := lt_of_block h.blk
  have R0 := ((RdW.refl h).alloc (.cells #[.int .i64 q, .int .i64 s, .slice a l.length cap, .int .i64 fr, .int .i64 b] 27)).alloc (.cells #[.int .i64 0, .int .i64 0, .slice none 0 0, .int .i64 0, .int .i64 0] 27)
  have P0 := PathAt.new (w.alloc (.cells #[.int .i64 q, .int .i64 s, .slice a l.length cap, .int .i64 fr, .int .i64 b] 27)) 0 0 0 0 (.slice none 0 0)
  rw [World.size_alloc] at P0
  go_enter Tryz.func78, Tryz.ntmps78
  go_wp2_with fail
  refine (copyS_any q s fr b a b0 o cap l _ hl0 (by omega) ((hs.alloc _).alloc _)).mono ?_
  rintro e w1 ⟨g, gc, rfl, ho1, hb1⟩
  have R1 := R0.below hb1
  have P1 := P0.keep hb1 P0.lt
  have ho1' : w1.ownsRow (w.heap.size + 1 + 1) 44 7 (.slice (some ⟨g, 0, none⟩) l.length gc) l.length (stepCells l) := by
    have := ho1
    simpa using this
  have D1 : SpD w (w1.alloc (.cells #[.int .i64 q, .int .i64 s, .slice (some ⟨g, 0, none⟩) l.length gc, .int .i64 fr, .int .i64 b] 27)) B R p (w.heap.size + 1) w1.heap.size q s fr b (.slice (some ⟨g, 0, none⟩) l.length gc) l :=
    ⟨R1.alloc _, by omega, P1.lt, P1.keep ((Below.refl _ _).alloc (Nat.le_refl _) _) P1.lt, PathAt.new w1 q s fr b _, owns_below ho1' ((Below.refl _ _).alloc (Nat.le_refl _) _)⟩
  clear R0 P0 R1 P1 ho1 ho1' hb1
  go_wp2_with fail
  refine (pick_any B R p (l.length : Int) _ D1.rd.rd (by omega)).mono ?_
  rintro e w2 ⟨rfl, r2, g2, s2⟩
  have D2 := D1.more r2 g2
  obtain ⟨kn, hkn⟩ : ∃ kn : Nat, pickV R p (l.length : Int) = (kn : Int) := Int.eq_ofNat_of_zero_le (pickV_range h.rng (by omega) (by omega)).1
  have hk := (pickV_range (n := (l.length : Int)) h.rng (show p ≤ 1000000000 by omega) (by omega)).2
  rw [hkn] at hk ⊢
  clear hkn D1 r2 g2 s2
  generalize w1.heap.size = X at *
  have k0 : (0 : Int) ≤ (kn : Int) := by omega
  have hkl : kn < l.length := by omega
  obtain ⟨t, ht⟩ : ∃ t, l[kn]? = some t := ⟨_, List.getElem?_eq_getElem hkl⟩
  have HT : Hid (l[kn]? = some t) := ht
  clear ht
  go_wp2_with fail
  refine (pick_any B R (p + 1) 12 _ D2.rd.rd (by omega)).mono ?_
  rintro e w3 ⟨rfl, r3, g3, s3⟩
  have D3 := D2.more r3 g3
  clear D2 r3 g3 s3
  rw [HM.out]
  obtain ⟨⟨e0, e1, e2, e3, e4⟩, ef⟩ := D3.pa.cells
  obtain ⟨hXB, hZB, hBZ⟩ := D3.xB
  go_wp2
  have qn := ClsR.any w3 B
  have q0 : ∀ u : ClsR w3 B, u.it.cell? ⟨X, 1 + 1, none⟩ = some (.slice (some ⟨g, 0, none⟩) l.length gc) := fun u => (ClsR.cell D3.pa.lt hXB u 2).trans e2
  refine region_picks 4 8 _ _ D3.rd.rd (by kernel_rfl) (by kernel_rfl) (by decide) (by decide) rfl rfl rfl (by kernel_rfl) ?_
  refine pc_quiet 4 rfl (by omega) ?_
  simp only [List.take_succ_cons, List.take_zero]
  repeat (go_big_quiet_step (fail))
  refine wpQuiet_nil ?_
  simp only [List.drop_succ_cons, List.drop_zero]
  refine pc_pick (by omega) rfl 6 (fun W' => by go_simp) ?_
  generalize pickV R (p + 1 + 1) 6 = z0
  simp only [Act.put, List.setIfInBounds_toArray, List.set_cons_succ, List.set_cons_zero]
  refine pc_quiet 3 rfl (by omega) ?_
  simp only [List.take_succ_cons, List.take_zero]
  repeat (go_big_quiet_step (fail))
  refine wpQuiet_nil ?_
  refine wpMoves_nil ?_
  intro w4 g4 s4 r4
  have D4 := D3.more r4 g4
  clear q0 qn e0 e1 e2 e3 e4 ef D3 r4 g4 s4
  refine any_end1 (N := 8) _ rfl (by kernel_rfl) (by kernel_rfl) rfl rfl ?_
  generalize wrap64 (z0 - 1) = z
  obtain ⟨u0, hc⟩ := some_get (D4.own.cellAt (kn * 7 + 2) (by omega)) D4.own.1 (by omega)
  have hf := D4.own.frozenAt
  obtain ⟨t', he⟩ := cells_put t (j := 2) (by decide) z
  have HE : Hid (t'.cells = t.cells.set 2 (.int .i64 z)) := he
  clear he
  have D5 := D4.put HT.out (j := 2) (by decide) HE.out
  clear D4
  unfold Oper.wp
  go_simp
  clear hc hf
  generalize w4.setCell ⟨g, kn * 7 + 2, none⟩ (.int .i64 z) = w5 at *
  obtain ⟨⟨e0, e1, e2, e3, e4⟩, ef⟩ := D5.pa.cells
  obtain ⟨⟨f0, f1, f2, f3, f4⟩, ff⟩ := D5.res.cells
  have hZX : w.heap.size + 1 ≠ X := by have := D5.lt; omega
  go_wp2
  refine bodyPost_ret (v := .agg #[.int .i64 q, .int .i64 s, .slice (some ⟨g, 0, none⟩) l.length gc, .int .i64 fr, .int .i64 b]) (by simp [results, Tryz.results78, go_sem, *]) rfl ?_
  exact D5.post (by simp; omega) (by omega)

set_option maxRecDepth 20000 in
set_option maxHeartbeats 4000000 in
theorem spoil_3 (B : Nat) (R : Rdr) (p : Nat) (q s fr b : Int) (a : Option Addr) (b0 o cap : Nat) (l : List Stp) (w : World) (h : RdAt w B R p) (hp : p ≤ 999900000) (hl0 : 1 ≤ l.length) (hl : l.length ≤ 40) (hs : StepsAt w a b0 o l) (hm : pickV R (p + 1) 12 = 3) :
    Calls Tryz.prog 78 #[.pointer (some ⟨B, 0, none⟩), .agg #[.int .i64 q, .int .i64 s, .slice a l.length cap, .int .i64 fr, .int .i64 b]] w (SpoilPost w B R p) := by
  have HM : Hid (pickV R (p + 1) 12 = 3) := hm
  clear hm
  have hB := lt_of_block h.blk
  have R0 := ((RdW.refl h).alloc (.cells #[.int .i64 q, .int .i64 s, .slice a l.length cap, .int .i64 fr, .int .i64 b] 27)).alloc (.cells #[.int .i64 0, .int .i64 0, .slice none 0 0, .int .i64 0, .int .i64 0] 27)
  have P0 := PathAt.new (w.alloc (.cells #[.int .i64 q, .int .i64 s, .slice a l.length cap, .int .i64 fr, .int .i64 b] 27)) 0 0 0 0 (.slice none 0 0)
  rw [World.size_alloc] at P0
  go_enter Tryz.func78, Tryz.ntmps78
  go_wp2_with fail
  refine (copyS_any q s fr b a b0 o cap l _ hl0 (by omega) ((hs.alloc _).alloc _)).mono ?_
  rintro e w1 ⟨g, gc, rfl, ho1, hb1⟩
  have R1 := R0.below hb1
  have P1 := P0.keep hb1 P0.lt
  have ho1' : w1.ownsRow (w.heap.size + 1 + 1) 44 7 (.slice (some ⟨g, 0, none⟩) l.length gc) l.length (stepCells l) := by
    have := ho1
    simpa using this
  have D1 : SpD w (w1.alloc (.cells #[.int .i64 q, .int .i64 s, .slice (some ⟨g, 0, none⟩) l.length gc, .int .i64 fr, .int .i64 b] 27)) B R p (w.heap.size + 1) w1.heap.size q s fr b (.slice (some ⟨g, 0, none⟩) l.length gc) l :=
    ⟨R1.alloc _, by omega, P1.lt, P1.keep ((Below.refl _ _).alloc (Nat.le_refl _) _) P1.lt, PathAt.new w1 q s fr b _, owns_below ho1' ((Below.refl _ _).alloc (Nat.le_refl _) _)⟩
  clear R0 P0 R1 P1 ho1 ho1' hb1
  go_wp2_with fail
  refine (pick_any B R p (l.length : Int) _ D1.rd.rd (by omega)).mono ?_
  rintro e w2 ⟨rfl, r2, g2, s2⟩
  have D2 := D1.more r2 g2
  obtain ⟨kn, hkn⟩ : ∃ kn : Nat, pickV R p (l.length : Int) = (kn : Int) := Int.eq_ofNat_of_zero_le (pickV_range h.rng (by omega) (by omega)).1
  have hk := (pickV_range (n := (l.length : Int)) h.rng (show p ≤ 1000000000 by omega) (by omega)).2
  rw [hkn] at hk ⊢
  clear hkn D1 r2 g2 s2
  generalize w1.heap.size = X at *
  have k0 : (0 : Int) ≤ (kn : Int) := by omega
  have hkl : kn < l.length := by omega
  obtain ⟨t, ht⟩ : ∃ t, l[kn]? = some t := ⟨_, List.getElem?_eq_getElem hkl⟩
  have HT : Hid (l[kn]? = some t) := ht
  clear ht
  go_wp2_with fail
  refine (pick_any B R (p + 1) 12 _ D2.rd.rd (by omega)).mono ?_
  rintro e w3 ⟨rfl, r3, g3, s3⟩
  have D3 := D2.more r3 g3
  clear D2 r3 g3 s3
  rw [HM.out]
  obtain ⟨⟨e0, e1, e2, e3, e4⟩, ef⟩ := D3.pa.cells
  obtain ⟨hXB, hZB, hBZ⟩ := D3.xB
  go_wp2
  have qn := ClsR.any w3 B
  have q0 : ∀ u : ClsR w3 B, u.it.cell? ⟨X, 1 + 1, none⟩ = some (.slice (some ⟨g, 0, none⟩) l.length gc) := fun u => (ClsR.cell D3.pa.lt hXB u 2).trans e2
  refine region_picks 4 7 _ _ D3.rd.rd (by kernel_rfl) (by kernel_rfl) (by decide) (by decide) rfl rfl rfl (by kernel_rfl) ?_
  refine pc_quiet 4 rfl (by omega) ?_
  simp only [List.take_succ_cons, List.take_zero]
  repeat (go_big_quiet_step (fail))
  refine wpQuiet_nil ?_
  simp only [List.drop_succ_cons, List.drop_zero]
  refine pc_pick (by omega) rfl 9 (fun W' => by go_simp) ?_
  generalize pickV R (p + 1 + 1) 9 = z
  simp only [Act.put, List.setIfInBounds_toArray, List.set_cons_succ, List.set_cons_zero]
  refine pc_quiet 2 rfl (by omega) ?_
  simp only [List.take_succ_cons, List.take_zero]
  repeat (go_big_quiet_step (fail))
  refine wpQuiet_nil ?_
  refine wpMoves_nil ?_
  intro w4 g4 s4 r4
  have D4 := D3.more r4 g4
  clear q0 qn e0 e1 e2 e3 e4 ef D3 r4 g4 s4
  refine any_end1 (N := 7) _ rfl (by kernel_rfl) (by kernel_rfl) rfl rfl ?_
  obtain ⟨u0, hc⟩ := some_get (D4.own.cellAt (kn * 7 + 3) (by omega)) D4.own.1 (by omega)
  have hf := D4.own.frozenAt
  obtain ⟨t', he⟩ := cells_put t (j := 3) (by decide) z
  have HE : Hid (t'.cells = t.cells.set 3 (.int .i64 z)) := he
  clear he
  have D5 := D4.put HT.out (j := 3) (by decide) HE.out
  clear D4
  unfold Oper.wp
  go_simp
  clear hc hf
  generalize w4.setCell ⟨g, kn * 7 + 3, none⟩ (.int .i64 z) = w5 at *
  obtain ⟨⟨e0, e1, e2, e3, e4⟩, ef⟩ := D5.pa.cells
  obtain ⟨⟨f0, f1, f2, f3, f4⟩, ff⟩ := D5.res.cells
  have hZX : w.heap.size + 1 ≠ X := by have := D5.lt; omega
  go_wp2
  refine bodyPost_ret (v := .agg #[.int .i64 q, .int .i64 s, .slice (some ⟨g, 0, none⟩) l.length gc, .int .i64 fr, .int .i64 b]) (by simp [results, Tryz.results78, go_sem, *]) rfl ?_
  exact D5.post (by simp; omega) (by omega)

set_option maxRecDepth 20000 in
set_option maxHeartbeats 4000000 in
theorem spoil_6 (B : Nat) (R : Rdr) (p : Nat) (q s fr b : Int) (a : Option Addr) (b0 o cap : Nat) (l : List Stp) (w : World) (h : RdAt w B R p) (hp : p ≤ 999900000) (hl0 : 1 ≤ l.length) (hl : l.length ≤ 40) (hs : StepsAt w a b0 o l) (hm : pickV R (p + 1) 12 = 6) :
    Calls Tryz.prog 78 #[.pointer (some ⟨B, 0, none⟩), .agg #[.int .i64 q, .int .i64 s, .slice a l.length cap, .int .i64 fr, .int .i64 b]] w (SpoilPost w B R p) := by
  have HM : Hid (pickV R (p + 1) 12 = 6) := hm
  clear hm
  have hB := lt_of_block h.blk
  have R0 := ((RdW.refl h).alloc (.cells #[.int .i64 q, .int .i64 s, .slice a l.length cap, .int .i64 fr, .int .i64 b] 27)).alloc (.cells #[.int .i64 0, .int .i64 0, .slice none 0 0, .int .i64 0, .int .i64 0] 27)
  have P0 := PathAt.new (w.alloc (.cells #[.int .i64 q, .int .i64 s, .slice a l.length cap, .int .i64 fr, .int .i64 b] 27)) 0 0 0 0 (.slice none 0 0)
  rw [World.size_alloc] at P0
  go_enter Tryz.func78, Tryz.ntmps78
  go_wp2_with fail
  refine (copyS_any q s fr b a b0 o cap l _ hl0 (by omega) ((hs.alloc _).alloc _)).mono ?_
  rintro e w1 ⟨g, gc, rfl, ho1, hb1⟩
  have R1 := R0.below hb1
  have P1 := P0.keep hb1 P0.lt
  have ho1' : w1.ownsRow (w.heap.size + 1 + 1) 44 7 (.slice (some ⟨g, 0, none⟩) l.length gc) l.length (stepCells l) := by
    have := ho1
    simpa using this
  have D1 : SpD w (w1.alloc (.cells #[.int .i64 q, .int .i64 s, .slice (some ⟨g, 0, none⟩) l.length gc, .int .i64 fr, .int .i64 b] 27)) B R p (w.heap.size + 1) w1.heap.size q s fr b (.slice (some ⟨g, 0, none⟩) l.length gc) l :=
    ⟨R1.alloc _, by omega, P1.lt, P1.keep ((Below.refl _ _).alloc (Nat.le_refl _) _) P1.lt, PathAt.new w1 q s fr b _, owns_below ho1' ((Below.refl _ _).alloc (Nat.le_refl _) _)⟩
  clear R0 P0 R1 P1 ho1 ho1' hb1
  go_wp2_with fail
  refine (pick_any B R p (l.length : Int) _ D1.rd.rd (by omega)).mono ?_
  rintro e w2 ⟨rfl, r2, g2, s2⟩
  have D2 := D1.more r2 g2
  obtain ⟨kn, hkn⟩ : ∃ kn : Nat, pickV R p (l.length : Int) = (kn : Int) := Int.eq_ofNat_of_zero_le (pickV_range h.rng (by omega) (by omega)).1
  have hk := (pickV_range (n := (l.length : Int)) h.rng (show p ≤ 1000000000 by omega) (by omega)).2
  rw [hkn] at hk ⊢
  clear hkn D1 r2 g2 s2
  generalize w1.heap.size = X at *
  have k0 : (0 : Int) ≤ (kn : Int) := by omega
  have hkl : kn < l.length := by omega
  obtain ⟨t, ht⟩ : ∃ t, l[kn]? = some t := ⟨_, List.getElem?_eq_getElem hkl⟩
  have HT : Hid (l[kn]? = some t) := ht
  clear ht
  go_wp2_with fail
  refine (pick_any B R (p + 1) 12 _ D2.rd.rd (by omega)).mono ?_
  rintro e w3 ⟨rfl, r3, g3, s3⟩
  have D3 := D2.more r3 g3
  clear D2 r3 g3 s3
  rw [HM.out]
  obtain ⟨⟨e0, e1, e2, e3, e4⟩, ef⟩ := D3.pa.cells
  obtain ⟨hXB, hZB, hBZ⟩ := D3.xB
  go_wp2
  have qn := ClsR.any w3 B
  have q0 : ∀ u : ClsR w3 B, u.it.cell? ⟨X, 4, none⟩ = some (.int .i64 b) := fun u => (ClsR.cell D3.pa.lt hXB u 4).trans e4
  refine region_picks 3 6 _ _ D3.rd.rd (by kernel_rfl) (by kernel_rfl) (by decide) (by decide) rfl rfl rfl (by kernel_rfl) ?_
  refine pc_quiet 3 rfl (by omega) ?_
  simp only [List.take_succ_cons, List.take_zero]
  repeat (go_big_quiet_step (fail))
  refine wpQuiet_nil ?_
  simp only [List.drop_succ_cons, List.drop_zero]
  refine pc_pick (by omega) rfl 3 (fun W' => by go_simp) ?_
  generalize pickV R (p + 1 + 1) 3 = z0
  simp only [Act.put, List.setIfInBounds_toArray, List.set_cons_succ, List.set_cons_zero]
  refine pc_quiet 2 rfl (by omega) ?_
  simp only [List.take_succ_cons, List.take_zero]
  repeat (go_big_quiet_step (fail))
  refine wpQuiet_nil ?_
  refine wpMoves_nil ?_
  intro w4 g4 s4 r4
  have D4 := D3.more r4 g4
  clear q0 qn e0 e1 e2 e3 e4 ef D3 r4 g4 s4
  refine any_end1 (N := 6) _ rfl (by kernel_rfl) (by kernel_rfl) rfl rfl ?_
  generalize wrap64 (b + z0) = z
  have D5 := D4.setX 3 (.int .i64 z) (q' := q) (s' := s) (fr' := z) (b' := b) (v' := .slice (some ⟨g, 0, none⟩) l.length gc) rfl D4.own (fun k e => (D4.gX k e).1)
  obtain ⟨⟨e0, e1, e2, e3, e4⟩, ef⟩ := D4.pa.cells
  unfold Oper.wp
  go_simp
  clear e0 e1 e2 e3 e4 ef D4
  generalize w4.setCell ⟨X, 3, none⟩ (.int .i64 z) = w5 at *
  obtain ⟨⟨e0, e1, e2, e3, e4⟩, ef⟩ := D5.pa.cells
  obtain ⟨⟨f0, f1, f2, f3, f4⟩, ff⟩ := D5.res.cells
  have hZX : w.heap.size + 1 ≠ X := by have := D5.lt; omega
  go_wp2
  refine bodyPost_ret (v := .agg #[.int .i64 q, .int .i64 s, .slice (some ⟨g, 0, none⟩) l.length gc, .int .i64 z, .int .i64 b]) (by simp [results, Tryz.results78, go_sem, *]) rfl ?_
  exact D5.post (by omega) (by omega)

set_option maxRecDepth 20000 in
set_option maxHeartbeats 4000000 in
theorem spoil_8 (B : Nat) (R : Rdr) (p : Nat) (q s fr b : Int) (a : Option Addr) (b0 o cap : Nat) (l : List Stp) (w : World) (h : RdAt w B R p) (hp : p ≤ 999900000) (hl0 : 1 ≤ l.length) (hl : l.length ≤ 40) (hs : StepsAt w a b0 o l) (hm : pickV R (p + 1) 12 = 8) :
    Calls Tryz.prog 78 #[.pointer (some ⟨B, 0, none⟩), .agg #[.int .i64 q, .int .i64 s, .slice a l.length cap, .int .i64 fr, .int .i64 b]] w (SpoilPost w B R p) := by
  have HM : Hid (pickV R (p + 1) 12 = 8) := hm
  clear hm
  have hB := lt_of_block h.blk
  have R0 := ((RdW.refl h).alloc (.cells #[.int .i64 q, .int .i64 s, .slice a l.length cap, .int .i64 fr, .int .i64 b] 27)).alloc (.cells #[.int .i64 0, .int .i64 0, .slice none 0 0, .int .i64 0, .int .i64 0] 27)
  have P0 := PathAt.new (w.alloc (.cells #[.int .i64 q, .int .i64 s, .slice a l.length cap, .int .i64 fr, .int .i64 b] 27)) 0 0 0 0 (.slice none 0 0)
  rw [World.size_alloc] at P0
  go_enter Tryz.func78, Tryz.ntmps78
  go_wp2_with fail
  refine (copyS_any q s fr b a b0 o cap l _ hl0 (by omega) ((hs.alloc _).alloc _)).mono ?_
  rintro e w1 ⟨g, gc, rfl, ho1, hb1⟩
  have R1 := R0.below hb1
  have P1 := P0.keep hb1 P0.lt
  have ho1' : w1.ownsRow (w.heap.size + 1 + 1) 44 7 (.slice (some ⟨g, 0, none⟩) l.length gc) l.length (stepCells l) := by
    have := ho1
    simpa using this
  have D1 : SpD w (w1.alloc (.cells #[.int .i64 q, .int .i64 s, .slice (some ⟨g, 0, none⟩) l.length gc, .int .i64 fr, .int .i64 b] 27)) B R p (w.heap.size + 1) w1.heap.size q s fr b (.slice (some ⟨g, 0, none⟩) l.length gc) l :=
    ⟨R1.alloc _, by omega, P1.lt, P1.keep ((Below.refl _ _).alloc (Nat.le_refl _) _) P1.lt, PathAt.new w1 q s fr b _, owns_below ho1' ((Below.refl _ _).alloc (Nat.le_refl _) _)⟩
  clear R0 P0 R1 P1 ho1 ho1' hb1
  go_wp2_with fail
  refine (pick_any B R p (l.length : Int) _ D1.rd.rd (by omega)).mono ?_
  rintro e w2 ⟨rfl, r2, g2, s2⟩
  have D2 := D1.more r2 g2
  obtain ⟨kn, hkn⟩ : ∃ kn : Nat, pickV R p (l.length : Int) = (kn : Int) := Int.eq_ofNat_of_zero_le (pickV_range h.rng (by omega) (by omega)).1
  have hk := (pickV_range (n := (l.length : Int)) h.rng (show p ≤ 1000000000 by omega) (by omega)).2
  rw [hkn] at hk ⊢
  clear hkn D1 r2 g2 s2
  generalize w1.heap.size = X at *
  have k0 : (0 : Int) ≤ (kn : Int) := by omega
  have hkl : kn < l.length := by omega
  obtain ⟨t, ht⟩ : ∃ t, l[kn]? = some t := ⟨_, List.getElem?_eq_getElem hkl⟩
  have HT : Hid (l[kn]? = some t) := ht
  clear ht
  go_wp2_with fail
  refine (pick_any B R (p + 1) 12 _ D2.rd.rd (by omega)).mono ?_
  rintro e w3 ⟨rfl, r3, g3, s3⟩
  have D3 := D2.more r3 g3
  clear D2 r3 g3 s3
  rw [HM.out]
  obtain ⟨⟨e0, e1, e2, e3, e4⟩, ef⟩ := D3.pa.cells
  obtain ⟨⟨f0, f1, f2, f3, f4⟩, ff⟩ := D3.res.cells
  have hcap : l.length ≤ gc ∧ gc ≤ maxLen := by
    rcases D3.own.2 with ⟨h0, _⟩ | ⟨g', cap', cur, h1, h2, h3, h4, h5, h6, h7⟩
    · cases h0
    · cases h1; exact ⟨h4, h5⟩
  have kc : (kn : Int) ≤ (gc : Int) := by omega
  have ho : w3.ownsRow (w.heap.size + 1 + 1) 44 7 (.slice (some ⟨g, 0, none⟩) (l.take kn).length gc) (l.take kn).length (stepCells (l.take kn)) := by
    have hlen : (l.take kn).length = kn := by simp; omega
    rw [hlen]
    refine ⟨by rw [stepCells_length, hlen], ?_⟩
    rcases D3.own.2 with ⟨h0, _⟩ | ⟨g', cap', cur, h1, h2, h3, h4, h5, h6, h7⟩
    · cases h0
    · cases h1
      refine Or.inr ⟨g, gc, cur, rfl, h2, h3, by omega, h5, h6, ?_⟩
      have e : cur.toList.take (kn * 7) = (cur.toList.take (l.length * 7)).take (kn * 7) := by rw [List.take_take, Nat.min_eq_left (by omega)]
      rw [e, h7]
      conv => lhs; rw [← List.take_append_drop kn l]
      rw [stepCells_app]
      rw [List.take_append_of_le_length (by rw [stepCells_length, hlen]; exact Nat.le_refl _)]
      exact List.take_of_length_le (by rw [stepCells_length, hlen]; exact Nat.le_refl _)
  have hlen : (l.take kn).length = kn := by simp; omega
  have HLn : Hid ((l.take kn).length ≤ 41) := by show _ ≤ _; omega
  have D5 := D3.setX 2 (.slice (some ⟨g, 0, none⟩) (l.take kn).length gc) (q' := q) (s' := s) (fr' := fr) (b' := b) (v' := .slice (some ⟨g, 0, none⟩) (l.take kn).length gc) rfl ho (fun k e => (D3.gX k e).1)
  rw [hlen] at D5
  have HD5 : Hid (SpD w (w3.setCell ⟨X, 2, none⟩ (.slice (some ⟨g, 0, none⟩) kn gc)) B R (p + 1 + 1) (w.heap.size + 1) X q s fr b (.slice (some ⟨g, 0, none⟩) kn gc) (l.take kn)) := D5
  have hZX : w.heap.size + 1 ≠ X := by have := D3.lt; omega
  clear D5 ho hlen D3
  go_wp2
  refine bodyPost_ret (v := .agg #[.int .i64 q, .int .i64 s, .slice (some ⟨g, 0, none⟩) kn gc, .int .i64 fr, .int .i64 b]) (by simp [results, Tryz.results78, go_sem, *]) rfl ?_
  exact HD5.out.post HLn.out (by omega)

end Go.Proofs.YtijcdikekgmfoaaGreatDoor

namespace Go.Proofs.YtijcdikekgmfoaaGreatDoor
open Go.RowKit

set_option maxRecDepth 20000 in
set_option maxHeartbeats 4000000 in
theorem spoil_1 (B : Nat) (R : Rdr) (p : Nat) (q s fr b : Int) (a : Option Addr) (b0 o cap : Nat) (l : List Stp) (w : World) (h : RdAt w B R p) (hp : p ≤ 999900000) (hl0 : 1 ≤ l.length) (hl : l.length ≤ 40) (hs : StepsAt w a b0 o l) (hm : pickV R (p + 1) 12 = 1) :
    Calls Tryz.prog 78 #[.pointer (some ⟨B, 0, none⟩), .agg #[.int .i64 q, .int .i64 s, .slice a l.length cap, .int .i64 fr, .int .i64 b]] w (SpoilPost w B R p) := by
  have HM : Hid (pickV R (p + 1) 12 = 1) := hm
  clear hm
  have hB := lt_of_block h.blk
  have R0 := ((RdW.refl h).alloc (.cells #[.int .i64 q, .int .i64 s, .slice a l.length cap, .int .i64 fr, .int .i64 b] 27)).alloc (.cells #[.int .i64 0, .int .i64 0, .slice none 0 0, .int .i64 0, .int .i64 0] 27)
  have P0 := PathAt.new (w.alloc (.cells #[.int .i64 q, .int .i64 s, .slice a l.length cap, .int .i64 fr, .int .i64 b] 27)) 0 0 0 0 (.slice none 0 0)
  rw [World.size_alloc] at P0
  go_enter Tryz.func78, Tryz.ntmps78
  go_wp2_with fail
  refine (copyS_any q s fr b a b0 o cap l _ hl0 (by omega) ((hs.alloc _).alloc _)).mono ?_
  rintro e w1 ⟨g, gc, rfl, ho1, hb1⟩
  have R1 := R0.below hb1
  have P1 := P0.keep hb1 P0.lt
  have ho1' : w1.ownsRow (w.heap.size + 1 + 1) 44 7 (.slice (some ⟨g, 0, none⟩) l.length gc) l.length (stepCells l) := by
    have := ho1
    simpa using this
  have D1 : SpD w (w1.alloc (.cells #[.int .i64 q, .int .i64 s, .slice (some ⟨g, 0, none⟩) l.length gc, .int .i64 fr, .int .i64 b] 27)) B R p (w.heap.size + 1) w1.heap.size q s fr b (.slice (some ⟨g, 0, none⟩) l.length gc) l :=
    ⟨R1.alloc _, by omega, P1.lt, P1.keep ((Below.refl _ _).alloc (Nat.le_refl _) _) P1.lt, PathAt.new w1 q s fr b _, owns_below ho1' ((Below.refl _ _).alloc (Nat.le_refl _) _)⟩
  clear R0 P0 R1 P1 ho1 ho1' hb1
  go_wp2_with fail
  refine (pick_any B R p (l.length : Int) _ D1.rd.rd (by omega)).mono ?_
  rintro e w2 ⟨rfl, r2, g2, s2⟩
  have D2 := D1.more r2 g2
  obtain ⟨kn, hkn⟩ : ∃ kn : Nat, pickV R p (l.length : Int) = (kn : Int) := Int.eq_ofNat_of_zero_le (pickV_range h.rng (by omega) (by omega)).1
  have hk := (pickV_range (n := (l.length : Int)) h.rng (show p ≤ 1000000000 by omega) (by omega)).2
  rw [hkn] at hk ⊢
  clear hkn D1 r2 g2 s2
  generalize w1.heap.size = X at *
  have k0 : (0 : Int) ≤ (kn : Int) := by omega
  have hkl : kn < l.length := by omega
  obtain ⟨t, ht⟩ : ∃ t, l[kn]? = some t := ⟨_, List.getElem?_eq_getElem hkl⟩
  have HT : Hid (l[kn]? = some t) := ht
  clear ht
  go_wp2_with fail
  refine (pick_any B R (p + 1) 12 _ D2.rd.rd (by omega)).mono ?_
  rintro e w3 ⟨rfl, r3, g3, s3⟩
  have D3 := D2.more r3 g3
  clear D2 r3 g3 s3
  rw [HM.out]
  obtain ⟨⟨e0, e1, e2, e3, e4⟩, ef⟩ := D3.pa.cells
  obtain ⟨hXB, hZB, hBZ⟩ := D3.xB
  have hgB : g ≠ B := by have := (D3.gX g rfl).2; omega
  have hgl : g < w3.heap.size := owns_lt D3.own g rfl
  have x0 := (D3.own.cellAt (kn * 7 + 0) (by omega)).trans (stepCells_at l kn t 0 HT.out (by decide))
  have x4 := (D3.own.cellAt (kn * 7 + 4) (by omega)).trans (stepCells_at l kn t 4 HT.out (by decide))
  have x5 := (D3.own.cellAt (kn * 7 + 5) (by omega)).trans (stepCells_at l kn t 5 HT.out (by decide))
  rw [Nat.add_zero] at x0
  go_wp2
  have qn := ClsR.any w3 B
  have q0 : ∀ u : ClsR w3 B, u.it.cell? ⟨X, 2, none⟩ = some (.slice (some ⟨g, 0, none⟩) l.length gc) := fun u => (ClsR.cell D3.pa.lt hXB u 2).trans e2
  have q3 : ∀ u : ClsR w3 B, u.it.cell? ⟨X, 3, none⟩ = some (.int .i64 fr) := fun u => (ClsR.cell D3.pa.lt hXB u 3).trans e3
  have y0 : ∀ u : ClsR w3 B, u.it.cell? ⟨g, kn * 7, none⟩ = some (.int .i64 t.x) := fun u => (ClsR.cell hgl hgB u _).trans x0
  have y4 : ∀ u : ClsR w3 B, u.it.cell? ⟨g, kn * 7 + 4, none⟩ = some (.int .i64 t.fr) := fun u => (ClsR.cell hgl hgB u _).trans x4
  have y5 : ∀ u : ClsR w3 B, u.it.cell? ⟨g, kn * 7 + 5, none⟩ = some (.int .i64 t.by_) := fun u => (ClsR.cell hgl hgB u _).trans x5
  refine region_mixes 12 10 17 #[.int .i64 (-1), .int .i64 (16), .int .i64 (wrap64 (t.x + 1))] 3 _ _ D3.rd.rd (by kernel_rfl) (by kernel_rfl) (by decide) (by decide) (by decide) rfl rfl rfl rfl (by kernel_rfl) ?_
  refine mx_quiet 10 rfl (by omega) (by omega) ?_
  simp only [List.take_succ_cons, List.take_zero]
  repeat (go_big_quiet_step (fail))
  refine wpQuiet_nil ?_
  simp only [List.drop_succ_cons, List.drop_zero]
  refine mx_build (by decide) rfl 3 (fun W' => by go_simp) ?_
  simp only [Act.put, List.setIfInBounds_toArray, List.set_cons_succ, List.set_cons_zero]
  refine mx_quiet 1 rfl (by omega) (by omega) ?_
  simp only [List.take_succ_cons, List.take_zero]
  repeat (go_big_quiet_step (fail))
  refine wpQuiet_nil ?_
  simp only [List.drop_succ_cons, List.drop_zero]
  refine mx_pick (by omega) (by decide) rfl 3 (fun W' => by go_simp) ?_
  obtain ⟨z0, z1⟩ := pickV_range (n := 3) h.rng (show p + 1 + 1 ≤ 1000000000 by omega) (by omega)
  generalize pickV R (p + 1 + 1) 3 = zi at *
  obtain ⟨zn, rfl⟩ := Int.eq_ofNat_of_zero_le z0
  obtain ⟨z, hz⟩ : ∃ z, #[.int .i64 (-1), .int .i64 (16), .int .i64 (wrap64 (t.x + 1))][zn]? = some (Value.int .i64 z) := by
    have h3 : zn = 0 ∨ zn = 1 ∨ zn = 2 := by omega
    rcases h3 with rfl | rfl | rfl <;> exact ⟨_, rfl⟩
  have qm := ClsN.any w3 B #[.int .i64 (-1), .int .i64 (16), .int .i64 (wrap64 (t.x + 1))] 3
  have q5 : ∀ u : ClsN w3 B #[.int .i64 (-1), .int .i64 (16), .int .i64 (wrap64 (t.x + 1))] 3, u.it.cell? ⟨w3.heap.size, zn, none⟩ = some (.int .i64 z) := fun u => (ClsN.at_ u zn).trans hz
  have HZ : Hid (#[.int .i64 (-1), .int .i64 (16), .int .i64 (wrap64 (t.x + 1))][zn]? = some (Value.int .i64 z)) := hz
  clear hz
  simp only [Act.put, List.setIfInBounds_toArray, List.set_cons_succ, List.set_cons_zero]
  refine mx_after 2 rfl (by omega) (by omega) (by kernel_rfl) ?_
  simp only [List.take_succ_cons, List.take_zero]
  repeat (go_big_quiet_step (fail))
  refine wpQuiet_nil ?_
  simp only [List.drop_succ_cons, List.drop_zero]
  refine mx_quiet 2 rfl (by omega) (by omega) ?_
  simp only [List.take_succ_cons, List.take_zero]
  repeat (go_big_quiet_step (fail))
  refine wpQuiet_nil ?_
  refine wpMoves_nil ?_
  intro w4 g4 s4 r4 _
  have D4 := D3.more r4 g4
  clear q0 q3 q5 qm qn y0 y4 y5 x0 x4 x5 e0 e1 e2 e3 e4 ef D3 r4 g4 s4
  refine any_end1 (N := 17) _ rfl (by kernel_rfl) (by kernel_rfl) rfl rfl ?_
  obtain ⟨u0, hc⟩ := some_get (D4.own.cellAt (kn * 7 + 0) (by omega)) D4.own.1 (by omega)
  have hf := D4.own.frozenAt
  obtain ⟨t', he⟩ := cells_put t (j := 0) (by decide) z
  have HE : Hid (t'.cells = t.cells.set 0 (.int .i64 z)) := he
  clear he
  have D5 := D4.put HT.out (j := 0) (by decide) HE.out
  rw [Nat.add_zero] at hc D5
  clear D4
  unfold Oper.wp
  go_simp
  clear hc hf
  generalize w4.setCell ⟨g, kn * 7, none⟩ (.int .i64 z) = w5 at *
  obtain ⟨⟨e0, e1, e2, e3, e4⟩, ef⟩ := D5.pa.cells
  obtain ⟨⟨f0, f1, f2, f3, f4⟩, ff⟩ := D5.res.cells
  have hZX : w.heap.size + 1 ≠ X := by have := D5.lt; omega
  go_wp2
  refine bodyPost_ret (v := .agg #[.int .i64 q, .int .i64 s, .slice (some ⟨g, 0, none⟩) l.length gc, .int .i64 fr, .int .i64 b]) (by simp [results, Tryz.results78, go_sem, *]) rfl ?_
  exact D5.post (by simp; omega) (by omega)

set_option maxRecDepth 20000 in
set_option maxHeartbeats 4000000 in
theorem spoil_4 (B : Nat) (R : Rdr) (p : Nat) (q s fr b : Int) (a : Option Addr) (b0 o cap : Nat) (l : List Stp) (w : World) (h : RdAt w B R p) (hp : p ≤ 999900000) (hl0 : 1 ≤ l.length) (hl : l.length ≤ 40) (hs : StepsAt w a b0 o l) (hm : pickV R (p + 1) 12 = 4) :
    Calls Tryz.prog 78 #[.pointer (some ⟨B, 0, none⟩), .agg #[.int .i64 q, .int .i64 s, .slice a l.length cap, .int .i64 fr, .int .i64 b]] w (SpoilPost w B R p) := by
  have HM : Hid (pickV R (p + 1) 12 = 4) := hm
  clear hm
  have hB := lt_of_block h.blk
  have R0 := ((RdW.refl h).alloc (.cells #[.int .i64 q, .int .i64 s, .slice a l.length cap, .int .i64 fr, .int .i64 b] 27)).alloc (.cells #[.int .i64 0, .int .i64 0, .slice none 0 0, .int .i64 0, .int .i64 0] 27)
  have P0 := PathAt.new (w.alloc (.cells #[.int .i64 q, .int .i64 s, .slice a l.length cap, .int .i64 fr, .int .i64 b] 27)) 0 0 0 0 (.slice none 0 0)
  rw [World.size_alloc] at P0
  go_enter Tryz.func78, Tryz.ntmps78
  go_wp2_with fail
  refine (copyS_any q s fr b a b0 o cap l _ hl0 (by omega) ((hs.alloc _).alloc _)).mono ?_
  rintro e w1 ⟨g, gc, rfl, ho1, hb1⟩
  have R1 := R0.below hb1
  have P1 := P0.keep hb1 P0.lt
  have ho1' : w1.ownsRow (w.heap.size + 1 + 1) 44 7 (.slice (some ⟨g, 0, none⟩) l.length gc) l.length (stepCells l) := by
    have := ho1
    simpa using this
  have D1 : SpD w (w1.alloc (.cells #[.int .i64 q, .int .i64 s, .slice (some ⟨g, 0, none⟩) l.length gc, .int .i64 fr, .int .i64 b] 27)) B R p (w.heap.size + 1) w1.heap.size q s fr b (.slice (some ⟨g, 0, none⟩) l.length gc) l :=
    ⟨R1.alloc _, by omega, P1.lt, P1.keep ((Below.refl _ _).alloc (Nat.le_refl _) _) P1.lt, PathAt.new w1 q s fr b _, owns_below ho1' ((Below.refl _ _).alloc (Nat.le_refl _) _)⟩
  clear R0 P0 R1 P1 ho1 ho1' hb1
  go_wp2_with fail
  refine (pick_any B R p (l.length : Int) _ D1.rd.rd (by omega)).mono ?_
  rintro e w2 ⟨rfl, r2, g2, s2⟩
  have D2 := D1.more r2 g2
  obtain ⟨kn, hkn⟩ : ∃ kn : Nat, pickV R p (l.length : Int) = (kn : Int) := Int.eq_ofNat_of_zero_le (pickV_range h.rng (by omega) (by omega)).1
  have hk := (pickV_range (n := (l.length : Int)) h.rng (show p ≤ 1000000000 by omega) (by omega)).2
  rw [hkn] at hk ⊢
  clear hkn D1 r2 g2 s2
  generalize w1.heap.size = X at *
  have k0 : (0 : Int) ≤ (kn : Int) := by omega
  have hkl : kn < l.length := by omega
  obtain ⟨t, ht⟩ : ∃ t, l[kn]? = some t := ⟨_, List.getElem?_eq_getElem hkl⟩
  have HT : Hid (l[kn]? = some t) := ht
  clear ht
  go_wp2_with fail
  refine (pick_any B R (p + 1) 12 _ D2.rd.rd (by omega)).mono ?_
  rintro e w3 ⟨rfl, r3, g3, s3⟩
  have D3 := D2.more r3 g3
  clear D2 r3 g3 s3
  rw [HM.out]
  obtain ⟨⟨e0, e1, e2, e3, e4⟩, ef⟩ := D3.pa.cells
  obtain ⟨hXB, hZB, hBZ⟩ := D3.xB
  have hgB : g ≠ B := by have := (D3.gX g rfl).2; omega
  have hgl : g < w3.heap.size := owns_lt D3.own g rfl
  have x0 := (D3.own.cellAt (kn * 7 + 0) (by omega)).trans (stepCells_at l kn t 0 HT.out (by decide))
  have x4 := (D3.own.cellAt (kn * 7 + 4) (by omega)).trans (stepCells_at l kn t 4 HT.out (by decide))
  have x5 := (D3.own.cellAt (kn * 7 + 5) (by omega)).trans (stepCells_at l kn t 5 HT.out (by decide))
  rw [Nat.add_zero] at x0
  go_wp2
  have qn := ClsR.any w3 B
  have q0 : ∀ u : ClsR w3 B, u.it.cell? ⟨X, 2, none⟩ = some (.slice (some ⟨g, 0, none⟩) l.length gc) := fun u => (ClsR.cell D3.pa.lt hXB u 2).trans e2
  have q3 : ∀ u : ClsR w3 B, u.it.cell? ⟨X, 3, none⟩ = some (.int .i64 fr) := fun u => (ClsR.cell D3.pa.lt hXB u 3).trans e3
  have y0 : ∀ u : ClsR w3 B, u.it.cell? ⟨g, kn * 7, none⟩ = some (.int .i64 t.x) := fun u => (ClsR.cell hgl hgB u _).trans x0
  have y4 : ∀ u : ClsR w3 B, u.it.cell? ⟨g, kn * 7 + 4, none⟩ = some (.int .i64 t.fr) := fun u => (ClsR.cell hgl hgB u _).trans x4
  have y5 : ∀ u : ClsR w3 B, u.it.cell? ⟨g, kn * 7 + 5, none⟩ = some (.int .i64 t.by_) := fun u => (ClsR.cell hgl hgB u _).trans x5
  refine region_mixes 18 16 23 #[.int .i64 (-1), .int .i64 (t.by_), .int .i64 (wrap64 (t.by_ + 1))] 3 _ _ D3.rd.rd (by kernel_rfl) (by kernel_rfl) (by decide) (by decide) (by decide) rfl rfl rfl rfl (by kernel_rfl) ?_
  refine mx_quiet 16 rfl (by omega) (by omega) ?_
  simp only [List.take_succ_cons, List.take_zero]
  repeat (go_big_quiet_step (fail))
  refine wpQuiet_nil ?_
  simp only [List.drop_succ_cons, List.drop_zero]
  refine mx_build (by decide) rfl 3 (fun W' => by go_simp) ?_
  simp only [Act.put, List.setIfInBounds_toArray, List.set_cons_succ, List.set_cons_zero]
  refine mx_quiet 1 rfl (by omega) (by omega) ?_
  simp only [List.take_succ_cons, List.take_zero]
  repeat (go_big_quiet_step (fail))
  refine wpQuiet_nil ?_
  simp only [List.drop_succ_cons, List.drop_zero]
  refine mx_pick (by omega) (by decide) rfl 3 (fun W' => by go_simp) ?_
  obtain ⟨z0, z1⟩ := pickV_range (n := 3) h.rng (show p + 1 + 1 ≤ 1000000000 by omega) (by omega)
  generalize pickV R (p + 1 + 1) 3 = zi at *
  obtain ⟨zn, rfl⟩ := Int.eq_ofNat_of_zero_le z0
  obtain ⟨z, hz⟩ : ∃ z, #[.int .i64 (-1), .int .i64 (t.by_), .int .i64 (wrap64 (t.by_ + 1))][zn]? = some (Value.int .i64 z) := by
    have h3 : zn = 0 ∨ zn = 1 ∨ zn = 2 := by omega
    rcases h3 with rfl | rfl | rfl <;> exact ⟨_, rfl⟩
  have qm := ClsN.any w3 B #[.int .i64 (-1), .int .i64 (t.by_), .int .i64 (wrap64 (t.by_ + 1))] 3
  have q5 : ∀ u : ClsN w3 B #[.int .i64 (-1), .int .i64 (t.by_), .int .i64 (wrap64 (t.by_ + 1))] 3, u.it.cell? ⟨w3.heap.size, zn, none⟩ = some (.int .i64 z) := fun u => (ClsN.at_ u zn).trans hz
  have HZ : Hid (#[.int .i64 (-1), .int .i64 (t.by_), .int .i64 (wrap64 (t.by_ + 1))][zn]? = some (Value.int .i64 z)) := hz
  clear hz
  simp only [Act.put, List.setIfInBounds_toArray, List.set_cons_succ, List.set_cons_zero]
  refine mx_after 2 rfl (by omega) (by omega) (by kernel_rfl) ?_
  simp only [List.take_succ_cons, List.take_zero]
  repeat (go_big_quiet_step (fail))
  refine wpQuiet_nil ?_
  simp only [List.drop_succ_cons, List.drop_zero]
  refine mx_quiet 2 rfl (by omega) (by omega) ?_
  simp only [List.take_succ_cons, List.take_zero]
  repeat (go_big_quiet_step (fail))
  refine wpQuiet_nil ?_
  refine wpMoves_nil ?_
  intro w4 g4 s4 r4 _
  have D4 := D3.more r4 g4
  clear q0 q3 q5 qm qn y0 y4 y5 x0 x4 x5 e0 e1 e2 e3 e4 ef D3 r4 g4 s4
  refine any_end1 (N := 23) _ rfl (by kernel_rfl) (by kernel_rfl) rfl rfl ?_
  obtain ⟨u0, hc⟩ := some_get (D4.own.cellAt (kn * 7 + 4) (by omega)) D4.own.1 (by omega)
  have hf := D4.own.frozenAt
  obtain ⟨t', he⟩ := cells_put t (j := 4) (by decide) z
  have HE : Hid (t'.cells = t.cells.set 4 (.int .i64 z)) := he
  clear he
  have D5 := D4.put HT.out (j := 4) (by decide) HE.out
  clear D4
  unfold Oper.wp
  go_simp
  clear hc hf
  generalize w4.setCell ⟨g, kn * 7 + 4, none⟩ (.int .i64 z) = w5 at *
  obtain ⟨⟨e0, e1, e2, e3, e4⟩, ef⟩ := D5.pa.cells
  obtain ⟨⟨f0, f1, f2, f3, f4⟩, ff⟩ := D5.res.cells
  have hZX : w.heap.size + 1 ≠ X := by have := D5.lt; omega
  go_wp2
  refine bodyPost_ret (v := .agg #[.int .i64 q, .int .i64 s, .slice (some ⟨g, 0, none⟩) l.length gc, .int .i64 fr, .int .i64 b]) (by simp [results, Tryz.results78, go_sem, *]) rfl ?_
  exact D5.post (by simp; omega) (by omega)

set_option maxRecDepth 20000 in
set_option maxHeartbeats 4000000 in
theorem spoil_5 (B : Nat) (R : Rdr) (p : Nat) (q s fr b : Int) (a : Option Addr) (b0 o cap : Nat) (l : List Stp) (w : World) (h : RdAt w B R p) (hp : p ≤ 999900000) (hl0 : 1 ≤ l.length) (hl : l.length ≤ 40) (hs : StepsAt w a b0 o l) (hm : pickV R (p + 1) 12 = 5) :
    Calls Tryz.prog 78 #[.pointer (some ⟨B, 0, none⟩), .agg #[.int .i64 q, .int .i64 s, .slice a l.length cap, .int .i64 fr, .int .i64 b]] w (SpoilPost w B R p) := by
  have HM : Hid (pickV R (p + 1) 12 = 5) := hm
  clear hm
  have hB := lt_of_block h.blk
  have R0 := ((RdW.refl h).alloc (.cells #[.int .i64 q, .int .i64 s, .slice a l.length cap, .int .i64 fr, .int .i64 b] 27)).alloc (.cells #[.int .i64 0, .int .i64 0, .slice none 0 0, .int .i64 0, .int .i64 0] 27)
  have P0 := PathAt.new (w.alloc (.cells #[.int .i64 q, .int .i64 s, .slice a l.length cap, .int .i64 fr, .int .i64 b] 27)) 0 0 0 0 (.slice none 0 0)
  rw [World.size_alloc] at P0
  go_enter Tryz.func78, Tryz.ntmps78
  go_wp2_with fail
  refine (copyS_any q s fr b a b0 o cap l _ hl0 (by omega) ((hs.alloc _).alloc _)).mono ?_
  rintro e w1 ⟨g, gc, rfl, ho1, hb1⟩
  have R1 := R0.below hb1
  have P1 := P0.keep hb1 P0.lt
  have ho1' : w1.ownsRow (w.heap.size + 1 + 1) 44 7 (.slice (some ⟨g, 0, none⟩) l.length gc) l.length (stepCells l) := by
    have := ho1
    simpa using this
  have D1 : SpD w (w1.alloc (.cells #[.int .i64 q, .int .i64 s, .slice (some ⟨g, 0, none⟩) l.length gc, .int .i64 fr, .int .i64 b] 27)) B R p (w.heap.size + 1) w1.heap.size q s fr b (.slice (some ⟨g, 0, none⟩) l.length gc) l :=
    ⟨R1.alloc _, by omega, P1.lt, P1.keep ((Below.refl _ _).alloc (Nat.le_refl _) _) P1.lt, PathAt.new w1 q s fr b _, owns_below ho1' ((Below.refl _ _).alloc (Nat.le_refl _) _)⟩
  clear R0 P0 R1 P1 ho1 ho1' hb1
  go_wp2_with fail
  refine (pick_any B R p (l.length : Int) _ D1.rd.rd (by omega)).mono ?_
  rintro e w2 ⟨rfl, r2, g2, s2⟩
  have D2 := D1.more r2 g2
  obtain ⟨kn, hkn⟩ : ∃ kn : Nat, pickV R p (l.length : Int) = (kn : Int) := Int.eq_ofNat_of_zero_le (pickV_range h.rng (by omega) (by omega)).1
  have hk := (pickV_range (n := (l.length : Int)) h.rng (show p ≤ 1000000000 by omega) (by omega)).2
  rw [hkn] at hk ⊢
  clear hkn D1 r2 g2 s2
  generalize w1.heap.size = X at *
  have k0 : (0 : Int) ≤ (kn : Int) := by omega
  have hkl : kn < l.length := by omega
  obtain ⟨t, ht⟩ : ∃ t, l[kn]? = some t := ⟨_, List.getElem?_eq_getElem hkl⟩
  have HT : Hid (l[kn]? = some t) := ht
  clear ht
  go_wp2_with fail
  refine (pick_any B R (p + 1) 12 _ D2.rd.rd (by omega)).mono ?_
  rintro e w3 ⟨rfl, r3, g3, s3⟩
  have D3 := D2.more r3 g3
  clear D2 r3 g3 s3
  rw [HM.out]
  obtain ⟨⟨e0, e1, e2, e3, e4⟩, ef⟩ := D3.pa.cells
  obtain ⟨hXB, hZB, hBZ⟩ := D3.xB
  have hgB : g ≠ B := by have := (D3.gX g rfl).2; omega
  have hgl : g < w3.heap.size := owns_lt D3.own g rfl
  have x0 := (D3.own.cellAt (kn * 7 + 0) (by omega)).trans (stepCells_at l kn t 0 HT.out (by decide))
  have x4 := (D3.own.cellAt (kn * 7 + 4) (by omega)).trans (stepCells_at l kn t 4 HT.out (by decide))
  have x5 := (D3.own.cellAt (kn * 7 + 5) (by omega)).trans (stepCells_at l kn t 5 HT.out (by decide))
  rw [Nat.add_zero] at x0
  go_wp2
  have qn := ClsR.any w3 B
  have q0 : ∀ u : ClsR w3 B, u.it.cell? ⟨X, 2, none⟩ = some (.slice (some ⟨g, 0, none⟩) l.length gc) := fun u => (ClsR.cell D3.pa.lt hXB u 2).trans e2
  have q3 : ∀ u : ClsR w3 B, u.it.cell? ⟨X, 3, none⟩ = some (.int .i64 fr) := fun u => (ClsR.cell D3.pa.lt hXB u 3).trans e3
  have y0 : ∀ u : ClsR w3 B, u.it.cell? ⟨g, kn * 7, none⟩ = some (.int .i64 t.x) := fun u => (ClsR.cell hgl hgB u _).trans x0
  have y4 : ∀ u : ClsR w3 B, u.it.cell? ⟨g, kn * 7 + 4, none⟩ = some (.int .i64 t.fr) := fun u => (ClsR.cell hgl hgB u _).trans x4
  have y5 : ∀ u : ClsR w3 B, u.it.cell? ⟨g, kn * 7 + 5, none⟩ = some (.int .i64 t.by_) := fun u => (ClsR.cell hgl hgB u _).trans x5
  refine region_mixes 11 9 16 #[.int .i64 (10000), .int .i64 (10001), .int .i64 (0), .int .i64 (t.fr)] 3 _ _ D3.rd.rd (by kernel_rfl) (by kernel_rfl) (by decide) (by decide) (by decide) rfl rfl rfl rfl (by kernel_rfl) ?_
  refine mx_quiet 9 rfl (by omega) (by omega) ?_
  simp only [List.take_succ_cons, List.take_zero]
  repeat (go_big_quiet_step (fail))
  refine wpQuiet_nil ?_
  simp only [List.drop_succ_cons, List.drop_zero]
  refine mx_build (by decide) rfl 4 (fun W' => by go_simp) ?_
  simp only [Act.put, List.setIfInBounds_toArray, List.set_cons_succ, List.set_cons_zero]
  refine mx_quiet 1 rfl (by omega) (by omega) ?_
  simp only [List.take_succ_cons, List.take_zero]
  repeat (go_big_quiet_step (fail))
  refine wpQuiet_nil ?_
  simp only [List.drop_succ_cons, List.drop_zero]
  refine mx_pick (by omega) (by decide) rfl 4 (fun W' => by go_simp) ?_
  obtain ⟨z0, z1⟩ := pickV_range (n := 4) h.rng (show p + 1 + 1 ≤ 1000000000 by omega) (by omega)
  generalize pickV R (p + 1 + 1) 4 = zi at *
  obtain ⟨zn, rfl⟩ := Int.eq_ofNat_of_zero_le z0
  obtain ⟨z, hz⟩ : ∃ z, #[.int .i64 (10000), .int .i64 (10001), .int .i64 (0), .int .i64 (t.fr)][zn]? = some (Value.int .i64 z) := by
    have h3 : zn = 0 ∨ zn = 1 ∨ zn = 2 ∨ zn = 3 := by omega
    rcases h3 with rfl | rfl | rfl | rfl <;> exact ⟨_, rfl⟩
  have qm := ClsN.any w3 B #[.int .i64 (10000), .int .i64 (10001), .int .i64 (0), .int .i64 (t.fr)] 3
  have q5 : ∀ u : ClsN w3 B #[.int .i64 (10000), .int .i64 (10001), .int .i64 (0), .int .i64 (t.fr)] 3, u.it.cell? ⟨w3.heap.size, zn, none⟩ = some (.int .i64 z) := fun u => (ClsN.at_ u zn).trans hz
  have HZ : Hid (#[.int .i64 (10000), .int .i64 (10001), .int .i64 (0), .int .i64 (t.fr)][zn]? = some (Value.int .i64 z)) := hz
  clear hz
  simp only [Act.put, List.setIfInBounds_toArray, List.set_cons_succ, List.set_cons_zero]
  refine mx_after 2 rfl (by omega) (by omega) (by kernel_rfl) ?_
  simp only [List.take_succ_cons, List.take_zero]
  repeat (go_big_quiet_step (fail))
  refine wpQuiet_nil ?_
  simp only [List.drop_succ_cons, List.drop_zero]
  refine mx_quiet 2 rfl (by omega) (by omega) ?_
  simp only [List.take_succ_cons, List.take_zero]
  repeat (go_big_quiet_step (fail))
  refine wpQuiet_nil ?_
  refine wpMoves_nil ?_
  intro w4 g4 s4 r4 _
  have D4 := D3.more r4 g4
  clear q0 q3 q5 qm qn y0 y4 y5 x0 x4 x5 e0 e1 e2 e3 e4 ef D3 r4 g4 s4
  refine any_end1 (N := 16) _ rfl (by kernel_rfl) (by kernel_rfl) rfl rfl ?_
  obtain ⟨u0, hc⟩ := some_get (D4.own.cellAt (kn * 7 + 5) (by omega)) D4.own.1 (by omega)
  have hf := D4.own.frozenAt
  obtain ⟨t', he⟩ := cells_put t (j := 5) (by decide) z
  have HE : Hid (t'.cells = t.cells.set 5 (.int .i64 z)) := he
  clear he
  have D5 := D4.put HT.out (j := 5) (by decide) HE.out
  clear D4
  unfold Oper.wp
  go_simp
  clear hc hf
  generalize w4.setCell ⟨g, kn * 7 + 5, none⟩ (.int .i64 z) = w5 at *
  obtain ⟨⟨e0, e1, e2, e3, e4⟩, ef⟩ := D5.pa.cells
  obtain ⟨⟨f0, f1, f2, f3, f4⟩, ff⟩ := D5.res.cells
  have hZX : w.heap.size + 1 ≠ X := by have := D5.lt; omega
  go_wp2
  refine bodyPost_ret (v := .agg #[.int .i64 q, .int .i64 s, .slice (some ⟨g, 0, none⟩) l.length gc, .int .i64 fr, .int .i64 b]) (by simp [results, Tryz.results78, go_sem, *]) rfl ?_
  exact D5.post (by simp; omega) (by omega)

set_option maxRecDepth 20000 in
set_option maxHeartbeats 4000000 in
theorem spoil_7 (B : Nat) (R : Rdr) (p : Nat) (q s fr b : Int) (a : Option Addr) (b0 o cap : Nat) (l : List Stp) (w : World) (h : RdAt w B R p) (hp : p ≤ 999900000) (hl0 : 1 ≤ l.length) (hl : l.length ≤ 40) (hs : StepsAt w a b0 o l) (hm : pickV R (p + 1) 12 = 7) :
    Calls Tryz.prog 78 #[.pointer (some ⟨B, 0, none⟩), .agg #[.int .i64 q, .int .i64 s, .slice a l.length cap, .int .i64 fr, .int .i64 b]] w (SpoilPost w B R p) := by
  have HM : Hid (pickV R (p + 1) 12 = 7) := hm
  clear hm
  have hB := lt_of_block h.blk
  have R0 := ((RdW.refl h).alloc (.cells #[.int .i64 q, .int .i64 s, .slice a l.length cap, .int .i64 fr, .int .i64 b] 27)).alloc (.cells #[.int .i64 0, .int .i64 0, .slice none 0 0, .int .i64 0, .int .i64 0] 27)
  have P0 := PathAt.new (w.alloc (.cells #[.int .i64 q, .int .i64 s, .slice a l.length cap, .int .i64 fr, .int .i64 b] 27)) 0 0 0 0 (.slice none 0 0)
  rw [World.size_alloc] at P0
  go_enter Tryz.func78, Tryz.ntmps78
  go_wp2_with fail
  refine (copyS_any q s fr b a b0 o cap l _ hl0 (by omega) ((hs.alloc _).alloc _)).mono ?_
  rintro e w1 ⟨g, gc, rfl, ho1, hb1⟩
  have R1 := R0.below hb1
  have P1 := P0.keep hb1 P0.lt
  have ho1' : w1.ownsRow (w.heap.size + 1 + 1) 44 7 (.slice (some ⟨g, 0, none⟩) l.length gc) l.length (stepCells l) := by
    have := ho1
    simpa using this
  have D1 : SpD w (w1.alloc (.cells #[.int .i64 q, .int .i64 s, .slice (some ⟨g, 0, none⟩) l.length gc, .int .i64 fr, .int .i64 b] 27)) B R p (w.heap.size + 1) w1.heap.size q s fr b (.slice (some ⟨g, 0, none⟩) l.length gc) l :=
    ⟨R1.alloc _, by omega, P1.lt, P1.keep ((Below.refl _ _).alloc (Nat.le_refl _) _) P1.lt, PathAt.new w1 q s fr b _, owns_below ho1' ((Below.refl _ _).alloc (Nat.le_refl _) _)⟩
  clear R0 P0 R1 P1 ho1 ho1' hb1
  go_wp2_with fail
  refine (pick_any B R p (l.length : Int) _ D1.rd.rd (by omega)).mono ?_
  rintro e w2 ⟨rfl, r2, g2, s2⟩
  have D2 := D1.more r2 g2
  obtain ⟨kn, hkn⟩ : ∃ kn : Nat, pickV R p (l.length : Int) = (kn : Int) := Int.eq_ofNat_of_zero_le (pickV_range h.rng (by omega) (by omega)).1
  have hk := (pickV_range (n := (l.length : Int)) h.rng (show p ≤ 1000000000 by omega) (by omega)).2
  rw [hkn] at hk ⊢
  clear hkn D1 r2 g2 s2
  generalize w1.heap.size = X at *
  have k0 : (0 : Int) ≤ (kn : Int) := by omega
  have hkl : kn < l.length := by omega
  obtain ⟨t, ht⟩ : ∃ t, l[kn]? = some t := ⟨_, List.getElem?_eq_getElem hkl⟩
  have HT : Hid (l[kn]? = some t) := ht
  clear ht
  go_wp2_with fail
  refine (pick_any B R (p + 1) 12 _ D2.rd.rd (by omega)).mono ?_
  rintro e w3 ⟨rfl, r3, g3, s3⟩
  have D3 := D2.more r3 g3
  clear D2 r3 g3 s3
  rw [HM.out]
  obtain ⟨⟨e0, e1, e2, e3, e4⟩, ef⟩ := D3.pa.cells
  obtain ⟨hXB, hZB, hBZ⟩ := D3.xB
  have hgB : g ≠ B := by have := (D3.gX g rfl).2; omega
  have hgl : g < w3.heap.size := owns_lt D3.own g rfl
  have x0 := (D3.own.cellAt (kn * 7 + 0) (by omega)).trans (stepCells_at l kn t 0 HT.out (by decide))
  have x4 := (D3.own.cellAt (kn * 7 + 4) (by omega)).trans (stepCells_at l kn t 4 HT.out (by decide))
  have x5 := (D3.own.cellAt (kn * 7 + 5) (by omega)).trans (stepCells_at l kn t 5 HT.out (by decide))
  rw [Nat.add_zero] at x0
  go_wp2
  have qn := ClsR.any w3 B
  have q0 : ∀ u : ClsR w3 B, u.it.cell? ⟨X, 2, none⟩ = some (.slice (some ⟨g, 0, none⟩) l.length gc) := fun u => (ClsR.cell D3.pa.lt hXB u 2).trans e2
  have q3 : ∀ u : ClsR w3 B, u.it.cell? ⟨X, 3, none⟩ = some (.int .i64 fr) := fun u => (ClsR.cell D3.pa.lt hXB u 3).trans e3
  have y0 : ∀ u : ClsR w3 B, u.it.cell? ⟨g, kn * 7, none⟩ = some (.int .i64 t.x) := fun u => (ClsR.cell hgl hgB u _).trans x0
  have y4 : ∀ u : ClsR w3 B, u.it.cell? ⟨g, kn * 7 + 4, none⟩ = some (.int .i64 t.fr) := fun u => (ClsR.cell hgl hgB u _).trans x4
  have y5 : ∀ u : ClsR w3 B, u.it.cell? ⟨g, kn * 7 + 5, none⟩ = some (.int .i64 t.by_) := fun u => (ClsR.cell hgl hgB u _).trans x5
  refine region_mixes 4 2 8 #[.int .i64 (0), .int .i64 (10000), .int .i64 (10001), .int .i64 (fr)] 3 _ _ D3.rd.rd (by kernel_rfl) (by kernel_rfl) (by decide) (by decide) (by decide) rfl rfl rfl rfl (by kernel_rfl) ?_
  refine mx_quiet 2 rfl (by omega) (by omega) ?_
  simp only [List.take_succ_cons, List.take_zero]
  repeat (go_big_quiet_step (fail))
  refine wpQuiet_nil ?_
  simp only [List.drop_succ_cons, List.drop_zero]
  refine mx_build (by decide) rfl 4 (fun W' => by go_simp) ?_
  simp only [Act.put, List.setIfInBounds_toArray, List.set_cons_succ, List.set_cons_zero]
  refine mx_quiet 1 rfl (by omega) (by omega) ?_
  simp only [List.take_succ_cons, List.take_zero]
  repeat (go_big_quiet_step (fail))
  refine wpQuiet_nil ?_
  simp only [List.drop_succ_cons, List.drop_zero]
  refine mx_pick (by omega) (by decide) rfl 4 (fun W' => by go_simp) ?_
  obtain ⟨z0, z1⟩ := pickV_range (n := 4) h.rng (show p + 1 + 1 ≤ 1000000000 by omega) (by omega)
  generalize pickV R (p + 1 + 1) 4 = zi at *
  obtain ⟨zn, rfl⟩ := Int.eq_ofNat_of_zero_le z0
  obtain ⟨z, hz⟩ : ∃ z, #[.int .i64 (0), .int .i64 (10000), .int .i64 (10001), .int .i64 (fr)][zn]? = some (Value.int .i64 z) := by
    have h3 : zn = 0 ∨ zn = 1 ∨ zn = 2 ∨ zn = 3 := by omega
    rcases h3 with rfl | rfl | rfl | rfl <;> exact ⟨_, rfl⟩
  have qm := ClsN.any w3 B #[.int .i64 (0), .int .i64 (10000), .int .i64 (10001), .int .i64 (fr)] 3
  have q5 : ∀ u : ClsN w3 B #[.int .i64 (0), .int .i64 (10000), .int .i64 (10001), .int .i64 (fr)] 3, u.it.cell? ⟨w3.heap.size, zn, none⟩ = some (.int .i64 z) := fun u => (ClsN.at_ u zn).trans hz
  have HZ : Hid (#[.int .i64 (0), .int .i64 (10000), .int .i64 (10001), .int .i64 (fr)][zn]? = some (Value.int .i64 z)) := hz
  clear hz
  simp only [Act.put, List.setIfInBounds_toArray, List.set_cons_succ, List.set_cons_zero]
  refine mx_after 2 rfl (by omega) (by omega) (by kernel_rfl) ?_
  simp only [List.take_succ_cons, List.take_zero]
  repeat (go_big_quiet_step (fail))
  refine wpQuiet_nil ?_
  simp only [List.drop_succ_cons, List.drop_zero]
  refine mx_quiet 1 rfl (by omega) (by omega) ?_
  simp only [List.take_succ_cons, List.take_zero]
  repeat (go_big_quiet_step (fail))
  refine wpQuiet_nil ?_
  refine wpMoves_nil ?_
  intro w4 g4 s4 r4 _
  have D4 := D3.more r4 g4
  clear q0 q3 q5 qm qn y0 y4 y5 x0 x4 x5 e0 e1 e2 e3 e4 ef D3 r4 g4 s4
  refine any_end1 (N := 8) _ rfl (by kernel_rfl) (by kernel_rfl) rfl rfl ?_
  have D5 := D4.setX 4 (.int .i64 z) (q' := q) (s' := s) (fr' := fr) (b' := z) (v' := .slice (some ⟨g, 0, none⟩) l.length gc) rfl D4.own (fun k e => (D4.gX k e).1)
  obtain ⟨⟨e0, e1, e2, e3, e4⟩, ef⟩ := D4.pa.cells
  unfold Oper.wp
  go_simp
  clear e0 e1 e2 e3 e4 ef D4
  generalize w4.setCell ⟨X, 4, none⟩ (.int .i64 z) = w5 at *
  obtain ⟨⟨e0, e1, e2, e3, e4⟩, ef⟩ := D5.pa.cells
  obtain ⟨⟨f0, f1, f2, f3, f4⟩, ff⟩ := D5.res.cells
  have hZX : w.heap.size + 1 ≠ X := by have := D5.lt; omega
  go_wp2
  refine bodyPost_ret (v := .agg #[.int .i64 q, .int .i64 s, .slice (some ⟨g, 0, none⟩) l.length gc, .int .i64 fr, .int .i64 z]) (by simp [results, Tryz.results78, go_sem, *]) rfl ?_
  exact D5.post (by omega) (by omega)

end Go.Proofs.YtijcdikekgmfoaaGreatDoor

namespace Go.Proofs.YtijcdikekgmfoaaGreatDoor
open Go.RowKit

theorem seven_at {w : World} {S : Nat} {t : Stp} {ty : TypeId} (hb : w.heap[S]? = some (.cells #[.int .i64 t.x, .int .i64 t.y, .int .i64 t.lo, .int .i64 t.hi, .int .i64 t.fr, .int .i64 t.by_, .bool t.ho] ty (0, 0))) : ∀ (j : Nat) (u : Value), t.cells[j]? = some u → w.cell? ((⟨S, 0, none⟩ : Addr).add j) = some u := by
  intro j u hj
  obtain ⟨⟨h0, h1, h2, h3, h4, h5, h6⟩, _⟩ := blk7 hb
  match j, hj with
  | 0, hj => simp at hj; subst hj; exact h0
  | 1, hj => simp at hj; subst hj; exact h1
  | 2, hj => simp at hj; subst hj; exact h2
  | 3, hj => simp at hj; subst hj; exact h3
  | 4, hj => simp at hj; subst hj; exact h4
  | 5, hj => simp at hj; subst hj; exact h5
  | 6, hj => simp at hj; subst hj; exact h6

/-- Only reads: the class stays. -/
structure StayC (w : World) (B : Nat) (R : Rdr) (p : Nat) (w' : World) : Prop where
  gr : w.grownBy w' (some B)
  sz : w'.heap.size = w.heap.size
  rd : RdAt w' B R p
/-- A list is written out, at s. -/
structure BuildC (w : World) (B : Nat) (R : Rdr) (p s : Nat) (zs : Array Value) (T : TypeId) (L : Array Bool) (w' : World) : Prop where
  lt : B < w.heap.size
  gr : w.grownBy w' (some B)
  sz : w'.heap.size = w.heap.size + (if L.getD s false then 1 else 0)
  rd : RdAt w' B R p
  new : L.getD s false = true → w'.heap[w.heap.size]? = some (.cells zs T (0, 0))
section
variable {Q : Exit → Act → World → Prop} {w : World} {B : Nat} {R : Rdr} {p : Nat} {s : Nat} {zs : Array Value} {T : TypeId} {ops : Array Oper} {fin : Act → Prop}
theorem BuildC.other {w' : World} {j : Nat} {L : Array Bool} (h : BuildC w B R p s zs T L w') (hs : j ≠ s) : BuildC w B R p s zs T (L.setIfInBounds j true) w' :=
  ⟨h.lt, h.gr, by rw [getD_set_ne false hs]; exact h.sz, h.rd, by rw [getD_set_ne false hs]; exact h.new⟩
theorem region_stays {id : Nat} {a : Act} {l : List Oper} (N : Nat) (L0 L1 : Array Bool) (hRd : RdAt w B R p) (hm : Tryz.prog.follows .mixedOrders = true) (hs : Region.noSelect l.toArray = true) (hN : N ≤ l.length) (hL0 : Array.replicate l.length false = L0) (hL1 : listN L0 0 N = L1) (hlex : lexM .any l.toArray N N 0 L0 = true)
    (hp : ((l.take N).all fun o => plainOp o.op) = true)
    (h : wpQuiet Tryz.prog l.toArray (fun w' => ∃ u : ClsR w B, w' = u.it) (fun a' => ∀ w', w.grownBy w' (some B) → w'.heap.size = w.heap.size → RdAt w' B R p → wpAny Tryz.prog .any l.toArray Q (l.length - N) L1 a' w') (l.take N) a) :
    (Code.region id l.toArray true).wp Tryz.prog Q a w := by
  refine wp_region_moves_at (C := fun _ => StayC w B R p) N L0 L1 hm hs (by simpa using hN) (by simpa using hL0) hL1 hlex ⟨grown_drew (grown_refl _ _), rfl, hRd.below (k := B + 1) ⟨rfl, rfl, rfl, Nat.le_refl _, fun _ _ => rfl⟩ (Nat.lt_succ_self _)⟩ ?_
  have e3 : l.toArray.toList.take N = l.take N ++ [] := by simp
  rw [e3]
  refine moves_quiet (U := fun w' => ∃ u : ClsR w B, w' = u.it) [] (fun L w' _ h => ⟨⟨w', h.gr⟩, rfl⟩) (l.take N) 0 a hp (by simp) (fun _ _ _ _ _ hC => hC) ?_
  refine wpQuiet_mono ?_ _ _ h
  intro a2 h3
  refine wpMoves_nil (fun w' hC => ?_)
  simpa using h3 w' hC.gr hC.sz hC.rd
theorem region_builds {id : Nat} {a : Act} {l : List Oper} (s N : Nat) (zs : Array Value) (T : TypeId) (L0 L1 : Array Bool) (hRd : RdAt w B R p) (hm : Tryz.prog.follows .mixedOrders = true) (hs : Region.noSelect l.toArray = true) (hN : N ≤ l.length) (hsN : s < N)
    (hL0 : Array.replicate l.length false = L0) (hL1 : listN L0 0 N = L1) (hs1 : L1.getD s false = true) (hlex : lexM .any l.toArray N N 0 L0 = true)
    (h : wpMoves Tryz.prog .any l.toArray (BuildC w B R p s zs T) (fun a' => ∀ w', w.grownBy w' (some B) → w'.heap.size = w.heap.size + 1 → RdAt w' B R p → w'.heap[w.heap.size]? = some (.cells zs T (0, 0)) → wpAny Tryz.prog .any l.toArray Q (l.length - N) L1 a' w') (l.take N) 0 a) :
    (Code.region id l.toArray true).wp Tryz.prog Q a w := by
  have hL0s : L0.getD s false = false := by
    rw [← hL0]
    simp [show s < l.length by omega]
  refine wp_region_moves_at (C := BuildC w B R p s zs T) N L0 L1 hm hs (by simpa using hN) (by simpa using hL0) hL1 hlex ⟨lt_of_block hRd.blk, grown_drew (grown_refl _ _), by rw [hL0s]; rfl, hRd.below (k := B + 1) ⟨rfl, rfl, rfl, Nat.le_refl _, fun _ _ => rfl⟩ (Nat.lt_succ_self _), by rw [hL0s]; intro h; cases h⟩ ?_
  refine wpMoves_mono (fun a' h' w' hC => ?_) _ _ _ h
  have hsz := hC.sz
  rw [hs1] at hsz
  simpa using h' w' hC.gr hsz hC.rd (hC.new hs1)
theorem bd_quiet {l : List Oper} {k : Nat} {a : Act} (m : Nat) (hp : ((l.take m).all fun o => plainOp o.op) = true) (hks : s < k ∨ k + m ≤ s)
    (h : wpQuiet Tryz.prog ops (fun w' => ∃ u : ClsR w B, w' = u.it) (fun a' => wpMoves Tryz.prog .any ops (BuildC w B R p s zs T) fin (l.drop m) (k + (l.take m).length) a') (l.take m) a) : wpMoves Tryz.prog .any ops (BuildC w B R p s zs T) fin l k a := by
  have hlm : (l.take m).length ≤ m := by simp; omega
  rw [← List.take_append_drop m l]
  exact moves_quiet (U := fun w' => ∃ u : ClsR w B, w' = u.it) [] (fun L w' _ h => ⟨⟨w', h.gr⟩, rfl⟩) (l.take m) k a hp (by simp) (fun j h1 h2 L w' hC => hC.other (by omega)) h
theorem bd_build {rest : List Oper} {o : Oper} {a : Act} (hg : o.guard = none) (m : Nat)
    (h1 : ∀ W, (execOp a.eval o).run Tryz.prog W = .ok (.value (.slice (some ⟨W.heap.size, 0, none⟩) m m)) (W.alloc (.cells zs T)))
    (h2 : wpMoves Tryz.prog .any ops (BuildC w B R p s zs T) fin rest (s + 1) (a.put o.dst (.slice (some ⟨w.heap.size, 0, none⟩) m m))) : wpMoves Tryz.prog .any ops (BuildC w B R p s zs T) fin (o :: rest) s a := by
  refine moves_one (.slice (some ⟨w.heap.size, 0, none⟩) m m) hg (fun L w' _ hr hC => ?_) h2
  rw [h1]
  obtain ⟨hun, hss⟩ := not_yet hr
  have hsz := hC.sz
  rw [hun] at hsz
  have hsz' : w'.heap.size = w.heap.size := by simpa using hsz
  refine ⟨by rw [hsz'], hC.lt, ⟨hC.gr.os, hC.gr.tape, hC.gr.output, by simp; omega, fun k hk hne => (Below.heap_alloc w' _ k (by omega)).trans (hC.gr.block k hk hne)⟩, by simp [hss]; omega, ?_, fun _ => ?_⟩
  · exact hC.rd.below (k := w'.heap.size) ((Below.refl _ _).alloc (Nat.le_refl _) _) (by have := hC.lt; omega)
  · rw [← hsz']
    exact heap_alloc_new w' _
end

set_option maxRecDepth 20000 in
set_option maxHeartbeats 4000000 in
theorem spoil_10 (B : Nat) (R : Rdr) (p : Nat) (q s fr b : Int) (a : Option Addr) (b0 o cap : Nat) (l : List Stp) (w : World) (h : RdAt w B R p) (hp : p ≤ 999900000) (hl0 : 1 ≤ l.length) (hl : l.length ≤ 40) (hs : StepsAt w a b0 o l) (hm : pickV R (p + 1) 12 = 10) :
    Calls Tryz.prog 78 #[.pointer (some ⟨B, 0, none⟩), .agg #[.int .i64 q, .int .i64 s, .slice a l.length cap, .int .i64 fr, .int .i64 b]] w (SpoilPost w B R p) := by
  have HM : Hid (pickV R (p + 1) 12 = 10) := hm
  clear hm
  have hB := lt_of_block h.blk
  have R0 := ((RdW.refl h).alloc (.cells #[.int .i64 q, .int .i64 s, .slice a l.length cap, .int .i64 fr, .int .i64 b] 27)).alloc (.cells #[.int .i64 0, .int .i64 0, .slice none 0 0, .int .i64 0, .int .i64 0] 27)
  have P0 := PathAt.new (w.alloc (.cells #[.int .i64 q, .int .i64 s, .slice a l.length cap, .int .i64 fr, .int .i64 b] 27)) 0 0 0 0 (.slice none 0 0)
  rw [World.size_alloc] at P0
  go_enter Tryz.func78, Tryz.ntmps78
  go_wp2_with fail
  refine (copyS_any q s fr b a b0 o cap l _ hl0 (by omega) ((hs.alloc _).alloc _)).mono ?_
  rintro e w1 ⟨g, gc, rfl, ho1, hb1⟩
  have R1 := R0.below hb1
  have P1 := P0.keep hb1 P0.lt
  have ho1' : w1.ownsRow (w.heap.size + 1 + 1) 44 7 (.slice (some ⟨g, 0, none⟩) l.length gc) l.length (stepCells l) := by
    have := ho1
    simpa using this
  have D1 : SpD w (w1.alloc (.cells #[.int .i64 q, .int .i64 s, .slice (some ⟨g, 0, none⟩) l.length gc, .int .i64 fr, .int .i64 b] 27)) B R p (w.heap.size + 1) w1.heap.size q s fr b (.slice (some ⟨g, 0, none⟩) l.length gc) l :=
    ⟨R1.alloc _, by omega, P1.lt, P1.keep ((Below.refl _ _).alloc (Nat.le_refl _) _) P1.lt, PathAt.new w1 q s fr b _, owns_below ho1' ((Below.refl _ _).alloc (Nat.le_refl _) _)⟩
  clear R0 P0 R1 P1 ho1 ho1' hb1
  go_wp2_with fail
  refine (pick_any B R p (l.length : Int) _ D1.rd.rd (by omega)).mono ?_
  rintro e w2 ⟨rfl, r2, g2, s2⟩
  have D2 := D1.more r2 g2
  obtain ⟨kn, hkn⟩ : ∃ kn : Nat, pickV R p (l.length : Int) = (kn : Int) := Int.eq_ofNat_of_zero_le (pickV_range h.rng (by omega) (by omega)).1
  have hk := (pickV_range (n := (l.length : Int)) h.rng (show p ≤ 1000000000 by omega) (by omega)).2
  rw [hkn] at hk ⊢
  clear hkn D1 r2 g2 s2
  generalize w1.heap.size = X at *
  have k0 : (0 : Int) ≤ (kn : Int) := by omega
  have hkl : kn < l.length := by omega
  obtain ⟨t, ht⟩ : ∃ t, l[kn]? = some t := ⟨_, List.getElem?_eq_getElem hkl⟩
  have HT : Hid (l[kn]? = some t) := ht
  clear ht
  go_wp2_with fail
  refine (pick_any B R (p + 1) 12 _ D2.rd.rd (by omega)).mono ?_
  rintro e w3 ⟨rfl, r3, g3, s3⟩
  have D3 := D2.more r3 g3
  clear D2 r3 g3 s3
  rw [HM.out]
  obtain ⟨⟨e0, e1, e2, e3, e4⟩, ef⟩ := D3.pa.cells
  obtain ⟨hXB, hZB, hBZ⟩ := D3.xB
  have hgB : g ≠ B := by have := (D3.gX g rfl).2; omega
  have hgl : g < w3.heap.size := owns_lt D3.own g rfl
  have x6 := (D3.own.cellAt (kn * 7 + 6) (by omega)).trans (stepCells_at l kn t 6 HT.out (by decide))
  go_wp2
  have qn := ClsR.any w3 B
  have q0 : ∀ u : ClsR w3 B, u.it.cell? ⟨X, 2, none⟩ = some (.slice (some ⟨g, 0, none⟩) l.length gc) := fun u => (ClsR.cell D3.pa.lt hXB u 2).trans e2
  have y6 : ∀ u : ClsR w3 B, u.it.cell? ⟨g, kn * 7 + 6, none⟩ = some (.bool t.ho) := fun u => (ClsR.cell hgl hgB u _).trans x6
  refine region_stays 12 _ _ D3.rd.rd (by kernel_rfl) (by kernel_rfl) (by decide) rfl rfl (by kernel_rfl) rfl ?_
  simp only [List.take_succ_cons, List.take_zero]
  repeat (go_big_quiet_step (fail))
  refine wpQuiet_nil ?_
  intro w4 g4 s4 r4
  have D4 := D3.more r4 g4
  clear q0 qn y6 x6 e0 e1 e2 e3 e4 ef D3 r4 g4 s4
  refine any_end1 (N := 12) _ rfl (by kernel_rfl) (by kernel_rfl) rfl rfl ?_
  generalize (!t.ho) = z
  obtain ⟨u0, hc⟩ := some_get (D4.own.cellAt (kn * 7 + 6) (by omega)) D4.own.1 (by omega)
  have hf := D4.own.frozenAt
  obtain ⟨t', he⟩ := cells_put6 t z
  have HE : Hid (t'.cells = t.cells.set 6 (.bool z)) := he
  clear he
  have D5 := D4.put HT.out (j := 6) (by decide) HE.out
  clear D4
  unfold Oper.wp
  go_simp
  clear hc hf
  generalize w4.setCell ⟨g, kn * 7 + 6, none⟩ (.bool z) = w5 at *
  obtain ⟨⟨e0, e1, e2, e3, e4⟩, ef⟩ := D5.pa.cells
  obtain ⟨⟨f0, f1, f2, f3, f4⟩, ff⟩ := D5.res.cells
  have hZX : w.heap.size + 1 ≠ X := by have := D5.lt; omega
  go_wp2
  refine bodyPost_ret (v := .agg #[.int .i64 q, .int .i64 s, .slice (some ⟨g, 0, none⟩) l.length gc, .int .i64 fr, .int .i64 b]) (by simp [results, Tryz.results78, go_sem, *]) rfl ?_
  exact D5.post (by simp; omega) (by omega)

set_option maxRecDepth 20000 in
set_option maxHeartbeats 4000000 in
theorem spoil_11 (B : Nat) (R : Rdr) (p : Nat) (q s fr b : Int) (a : Option Addr) (b0 o cap : Nat) (l : List Stp) (w : World) (h : RdAt w B R p) (hp : p ≤ 999900000) (hl0 : 1 ≤ l.length) (hl : l.length ≤ 40) (hs : StepsAt w a b0 o l) (hm : pickV R (p + 1) 12 = 11) :
    Calls Tryz.prog 78 #[.pointer (some ⟨B, 0, none⟩), .agg #[.int .i64 q, .int .i64 s, .slice a l.length cap, .int .i64 fr, .int .i64 b]] w (SpoilPost w B R p) := by
  have HM : Hid (pickV R (p + 1) 12 = 11) := hm
  clear hm
  have hB := lt_of_block h.blk
  have R0 := ((RdW.refl h).alloc (.cells #[.int .i64 q, .int .i64 s, .slice a l.length cap, .int .i64 fr, .int .i64 b] 27)).alloc (.cells #[.int .i64 0, .int .i64 0, .slice none 0 0, .int .i64 0, .int .i64 0] 27)
  have P0 := PathAt.new (w.alloc (.cells #[.int .i64 q, .int .i64 s, .slice a l.length cap, .int .i64 fr, .int .i64 b] 27)) 0 0 0 0 (.slice none 0 0)
  rw [World.size_alloc] at P0
  go_enter Tryz.func78, Tryz.ntmps78
  go_wp2_with fail
  refine (copyS_any q s fr b a b0 o cap l _ hl0 (by omega) ((hs.alloc _).alloc _)).mono ?_
  rintro e w1 ⟨g, gc, rfl, ho1, hb1⟩
  have R1 := R0.below hb1
  have P1 := P0.keep hb1 P0.lt
  have ho1' : w1.ownsRow (w.heap.size + 1 + 1) 44 7 (.slice (some ⟨g, 0, none⟩) l.length gc) l.length (stepCells l) := by
    have := ho1
    simpa using this
  have D1 : SpD w (w1.alloc (.cells #[.int .i64 q, .int .i64 s, .slice (some ⟨g, 0, none⟩) l.length gc, .int .i64 fr, .int .i64 b] 27)) B R p (w.heap.size + 1) w1.heap.size q s fr b (.slice (some ⟨g, 0, none⟩) l.length gc) l :=
    ⟨R1.alloc _, by omega, P1.lt, P1.keep ((Below.refl _ _).alloc (Nat.le_refl _) _) P1.lt, PathAt.new w1 q s fr b _, owns_below ho1' ((Below.refl _ _).alloc (Nat.le_refl _) _)⟩
  clear R0 P0 R1 P1 ho1 ho1' hb1
  go_wp2_with fail
  refine (pick_any B R p (l.length : Int) _ D1.rd.rd (by omega)).mono ?_
  rintro e w2 ⟨rfl, r2, g2, s2⟩
  have D2 := D1.more r2 g2
  obtain ⟨kn, hkn⟩ : ∃ kn : Nat, pickV R p (l.length : Int) = (kn : Int) := Int.eq_ofNat_of_zero_le (pickV_range h.rng (by omega) (by omega)).1
  have hk := (pickV_range (n := (l.length : Int)) h.rng (show p ≤ 1000000000 by omega) (by omega)).2
  rw [hkn] at hk ⊢
  clear hkn D1 r2 g2 s2
  generalize w1.heap.size = X at *
  have k0 : (0 : Int) ≤ (kn : Int) := by omega
  have hkl : kn < l.length := by omega
  obtain ⟨t, ht⟩ : ∃ t, l[kn]? = some t := ⟨_, List.getElem?_eq_getElem hkl⟩
  have HT : Hid (l[kn]? = some t) := ht
  clear ht
  go_wp2_with fail
  refine (pick_any B R (p + 1) 12 _ D2.rd.rd (by omega)).mono ?_
  rintro e w3 ⟨rfl, r3, g3, s3⟩
  have D3 := D2.more r3 g3
  clear D2 r3 g3 s3
  rw [HM.out]
  obtain ⟨i0, hinf, hz0, hz1, hz2⟩ := info_parts step_info
  obtain ⟨⟨e0, e1, e2, e3, e4⟩, ef⟩ := D3.pa.cells
  obtain ⟨hXB, hZB, hBZ⟩ := D3.xB
  have hgX := D3.gX g rfl
  have hgB : g ≠ B := by omega
  have hgl : g < w3.heap.size := owns_lt D3.own g rfl
  obtain ⟨n, hn⟩ : ∃ n, l.length = n + 1 := ⟨l.length - 1, by omega⟩
  obtain ⟨tl, htl⟩ : ∃ tl, l[n]? = some tl := ⟨_, List.getElem?_eq_getElem (by omega)⟩
  have x0 := (D3.own.cellAt (n * 7 + 0) (by omega)).trans (stepCells_at l n tl 0 htl (by decide))
  have x1 := (D3.own.cellAt (n * 7 + 1) (by omega)).trans (stepCells_at l n tl 1 htl (by decide))
  have x2 := (D3.own.cellAt (n * 7 + 2) (by omega)).trans (stepCells_at l n tl 2 htl (by decide))
  have x3 := (D3.own.cellAt (n * 7 + 3) (by omega)).trans (stepCells_at l n tl 3 htl (by decide))
  have x4 := (D3.own.cellAt (n * 7 + 4) (by omega)).trans (stepCells_at l n tl 4 htl (by decide))
  have x5 := (D3.own.cellAt (n * 7 + 5) (by omega)).trans (stepCells_at l n tl 5 htl (by decide))
  have x6 := (D3.own.cellAt (n * 7 + 6) (by omega)).trans (stepCells_at l n tl 6 htl (by decide))
  rw [Nat.add_zero] at x0
  have HN : Hid (l.length = n + 1) := hn
  have m0 : (0 : Int) ≤ (n : Int) := by omega
  have m1 : (n : Int) < (n : Int) + 1 := by omega
  have wm : IntKind.i64.wrap (n : Int) = (n : Int) := by rw [IntKind.wrap_i64]; omega
  clear htl
  rw [hn] at e2
  go_wp2
  have qn := ClsR.any w3 B
  have q0 : ∀ u : ClsR w3 B, u.it.cell? ⟨X, 2, none⟩ = some (.slice (some ⟨g, 0, none⟩) (n + 1) gc) := fun u => (ClsR.cell D3.pa.lt hXB u 2).trans e2
  have y0 : ∀ u : ClsR w3 B, u.it.cell? ⟨g, n * 7, none⟩ = some (.int .i64 tl.x) := fun u => (ClsR.cell hgl hgB u _).trans x0
  have y1 : ∀ u : ClsR w3 B, u.it.cell? ⟨g, n * 7 + 1, none⟩ = some (.int .i64 tl.y) := fun u => (ClsR.cell hgl hgB u _).trans x1
  have y2 : ∀ u : ClsR w3 B, u.it.cell? ⟨g, n * 7 + 2, none⟩ = some (.int .i64 tl.lo) := fun u => (ClsR.cell hgl hgB u _).trans x2
  have y3 : ∀ u : ClsR w3 B, u.it.cell? ⟨g, n * 7 + 3, none⟩ = some (.int .i64 tl.hi) := fun u => (ClsR.cell hgl hgB u _).trans x3
  have y4 : ∀ u : ClsR w3 B, u.it.cell? ⟨g, n * 7 + 4, none⟩ = some (.int .i64 tl.fr) := fun u => (ClsR.cell hgl hgB u _).trans x4
  have y5 : ∀ u : ClsR w3 B, u.it.cell? ⟨g, n * 7 + 5, none⟩ = some (.int .i64 tl.by_) := fun u => (ClsR.cell hgl hgB u _).trans x5
  have y6 : ∀ u : ClsR w3 B, u.it.cell? ⟨g, n * 7 + 6, none⟩ = some (.bool tl.ho) := fun u => (ClsR.cell hgl hgB u _).trans x6
  refine region_builds 10 11 #[.int .i64 tl.x, .int .i64 tl.y, .int .i64 tl.lo, .int .i64 tl.hi, .int .i64 tl.fr, .int .i64 tl.by_, .bool tl.ho] 44 _ _ D3.rd.rd (by kernel_rfl) (by kernel_rfl) (by decide) (by decide) rfl rfl rfl (by kernel_rfl) ?_
  refine bd_quiet 10 rfl (by omega) ?_
  simp only [List.take_succ_cons, List.take_zero]
  repeat (go_big_quiet_step (fail))
  refine wpQuiet_nil ?_
  simp only [List.drop_succ_cons, List.drop_zero]
  refine bd_build rfl 1 (fun W' => by go_simp) ?_
  simp only [Act.put, List.setIfInBounds_toArray, List.set_cons_succ, List.set_cons_zero]
  refine wpMoves_nil ?_
  intro w4 g4 s4 r4 b4
  have D4 := D3.more r4 g4
  clear q0 qn y0 y1 y2 y3 y4 y5 y6 x0 x1 x2 x3 x4 x5 x6 e0 e1 e2 e3 e4 ef r4 g4 s4 wm
  refine any_end2 (N := 11) _ 2 rfl (by kernel_rfl) rfl rfl ?_
  have hown4 := D4.own
  have hpa4 := D4.pa
  have hlt4 := D4.lt
  have hZs := D4.res.lt
  refine wp_append_own w4 (.tmp 18) (.tmp 27) 25 rfl (w.heap.size + 1 + 1) 44 i0 (.agg #[.int .i64 0, .int .i64 0, .int .i64 0, .int .i64 0, .int .i64 0, .int .i64 0, .bool false]) 7 56 Tryz.underlying25 hinf hz0 hz1 hz2 rfl (by decide) (.slice (some ⟨g, 0, none⟩) (n + 1) gc) l.length (stepCells l) rfl (by rw [← HN.out]; exact hown4) ⟨w3.heap.size, 0, none⟩ 1 1 tl.cells rfl rfl (seven_at b4) (by simp [Value.oneCell']) (by unfold maxLen; omega) (by omega) (by omega) ?_
  intro v6 w6 hown6 hgrow6 _
  obtain ⟨g6, gc6, rfl, hg61, hg62⟩ := owns_some hown6 (by omega)
  obtain ⟨hpa6, D6⟩ := D4.append (t := tl) hown6 (by rw [HN.out]; exact hgrow6)
  refine any_end2 (N := 12) _ 1 rfl (by kernel_rfl) rfl rfl ?_
  simp only [Act.put, List.setIfInBounds_toArray]
  unfold Oper.wp
  go_simp
  refine any_end1 (N := 13) _ rfl (by kernel_rfl) (by kernel_rfl) rfl rfl ?_
  obtain ⟨⟨e0, e1, e2, e3, e4⟩, ef⟩ := hpa6.cells
  unfold Oper.wp
  go_simp
  rw [hn] at D6
  have hl6 : Hid ((l ++ [tl]).length ≤ 41) := by show _ ≤ _; simp; omega
  clear e0 e1 e2 e3 e4 ef hpa6 hown6 hgrow6 D4 hown4 hpa4 b4 D3
  generalize w6.setCell ⟨X, 2, none⟩ (.slice (some ⟨g6, 0, none⟩) (n + 1 + 1) gc6) = w7 at *
  obtain ⟨⟨e0, e1, e2, e3, e4⟩, ef⟩ := D6.pa.cells
  obtain ⟨⟨f0, f1, f2, f3, f4⟩, ff⟩ := D6.res.cells
  have hZX : w.heap.size + 1 ≠ X := by have := D6.lt; omega
  go_wp2
  refine bodyPost_ret (v := .agg #[.int .i64 q, .int .i64 s, .slice (some ⟨g6, 0, none⟩) (n + 1 + 1) gc6, .int .i64 fr, .int .i64 b]) (by simp [results, Tryz.results78, go_sem, *]) rfl ?_
  exact D6.post hl6.out (by omega)

end Go.Proofs.YtijcdikekgmfoaaGreatDoor

namespace Go.Proofs.YtijcdikekgmfoaaGreatDoor
open Go.RowKit

/-- How long the list of a path in a block is. -/
def lenAt (w : World) (X : Nat) : Nat := match w.cell? ⟨X, 2, none⟩ with | some (.slice _ n _) => n | _ => 0

set_option maxRecDepth 20000 in
set_option maxHeartbeats 4000000 in
theorem spoil_9 (B : Nat) (R : Rdr) (p : Nat) (q s fr b : Int) (a : Option Addr) (b0 o cap : Nat) (l : List Stp) (w : World) (h : RdAt w B R p) (hp : p ≤ 999900000) (hl0 : 1 ≤ l.length) (hl : l.length ≤ 40) (hs : StepsAt w a b0 o l) (hm : pickV R (p + 1) 12 = 9) :
    Calls Tryz.prog 78 #[.pointer (some ⟨B, 0, none⟩), .agg #[.int .i64 q, .int .i64 s, .slice a l.length cap, .int .i64 fr, .int .i64 b]] w (SpoilPost w B R p) := by
  have HM : Hid (pickV R (p + 1) 12 = 9) := hm
  clear hm
  have hB := lt_of_block h.blk
  have R0 := ((RdW.refl h).alloc (.cells #[.int .i64 q, .int .i64 s, .slice a l.length cap, .int .i64 fr, .int .i64 b] 27)).alloc (.cells #[.int .i64 0, .int .i64 0, .slice none 0 0, .int .i64 0, .int .i64 0] 27)
  have P0 := PathAt.new (w.alloc (.cells #[.int .i64 q, .int .i64 s, .slice a l.length cap, .int .i64 fr, .int .i64 b] 27)) 0 0 0 0 (.slice none 0 0)
  rw [World.size_alloc] at P0
  go_enter Tryz.func78, Tryz.ntmps78
  go_wp2_with fail
  refine (copyS_any q s fr b a b0 o cap l _ hl0 (by omega) ((hs.alloc _).alloc _)).mono ?_
  rintro e w1 ⟨g, gc, rfl, ho1, hb1⟩
  have R1 := R0.below hb1
  have P1 := P0.keep hb1 P0.lt
  have ho1' : w1.ownsRow (w.heap.size + 1 + 1) 44 7 (.slice (some ⟨g, 0, none⟩) l.length gc) l.length (stepCells l) := by
    have := ho1
    simpa using this
  have D1 : SpD w (w1.alloc (.cells #[.int .i64 q, .int .i64 s, .slice (some ⟨g, 0, none⟩) l.length gc, .int .i64 fr, .int .i64 b] 27)) B R p (w.heap.size + 1) w1.heap.size q s fr b (.slice (some ⟨g, 0, none⟩) l.length gc) l :=
    ⟨R1.alloc _, by omega, P1.lt, P1.keep ((Below.refl _ _).alloc (Nat.le_refl _) _) P1.lt, PathAt.new w1 q s fr b _, owns_below ho1' ((Below.refl _ _).alloc (Nat.le_refl _) _)⟩
  clear R0 P0 R1 P1 ho1 ho1' hb1
  go_wp2_with fail
  refine (pick_any B R p (l.length : Int) _ D1.rd.rd (by omega)).mono ?_
  rintro e w2 ⟨rfl, r2, g2, s2⟩
  have D2 := D1.more r2 g2
  obtain ⟨kn, hkn⟩ : ∃ kn : Nat, pickV R p (l.length : Int) = (kn : Int) := Int.eq_ofNat_of_zero_le (pickV_range h.rng (by omega) (by omega)).1
  have hk := (pickV_range (n := (l.length : Int)) h.rng (show p ≤ 1000000000 by omega) (by omega)).2
  rw [hkn] at hk ⊢
  clear hkn D1 r2 g2 s2
  generalize w1.heap.size = X at *
  have k0 : (0 : Int) ≤ (kn : Int) := by omega
  have hkl : kn < l.length := by omega
  obtain ⟨t, ht⟩ : ∃ t, l[kn]? = some t := ⟨_, List.getElem?_eq_getElem hkl⟩
  have HT : Hid (l[kn]? = some t) := ht
  clear ht
  go_wp2_with fail
  refine (pick_any B R (p + 1) 12 _ D2.rd.rd (by omega)).mono ?_
  rintro e w3 ⟨rfl, r3, g3, s3⟩
  have D3 := D2.more r3 g3
  clear D2 r3 g3 s3
  rw [HM.out]
  obtain ⟨i0, hinf, hz0, hz1, hz2⟩ := info_parts step_info
  go_wp2
  go_loopw [] (fun wr => ∃ (g gc p' : Nat) (l' : List Stp), 1 ≤ l'.length ∧ l'.length ≤ 41 ∧ p' ≤ p + 2 + l'.length ∧ SpD w wr B R p' (w.heap.size + 1) X q s fr b (.slice (some ⟨g, 0, none⟩) l'.length gc) l') (fun wr => 42 - lenAt wr X)
  case atStart => exact ⟨g, gc, p + 1 + 1, l, hl0, by omega, by omega, D3⟩
  case round =>
    obtain ⟨g, gc, p', l, hl0, hl41, hp', D1⟩ := hrel
    clear D3
    have HLA : Hid (lenAt wr X = l.length) := by show _ = _; unfold lenAt; rw [D1.pa.cells.1.2.2.1]
    obtain ⟨⟨e0, e1, e2, e3, e4⟩, ef⟩ := D1.pa.cells
    obtain ⟨hXB, hZB, hBZ⟩ := D1.xB
    go_wp2
    have qn := ClsR.any wr B
    have q0 : ∀ u : ClsR wr B, u.it.cell? ⟨X, 2, none⟩ = some (.slice (some ⟨g, 0, none⟩) l.length gc) := fun u => (ClsR.cell D1.pa.lt hXB u 2).trans e2
    refine region_picks 4 7 _ _ D1.rd.rd (by kernel_rfl) (by kernel_rfl) (by decide) (by decide) rfl rfl rfl (by kernel_rfl) ?_
    refine pc_quiet 4 rfl (by omega) ?_
    simp only [List.take_succ_cons, List.take_zero]
    repeat (go_big_quiet_step (fail))
    refine wpQuiet_nil ?_
    simp only [List.drop_succ_cons, List.drop_zero]
    refine pc_pick (by omega) rfl 2 (fun W' => by go_simp) ?_
    obtain ⟨z0, z1⟩ := pickV_range (n := 2) h.rng (show p' ≤ 1000000000 by omega) (by omega)
    generalize pickV R p' 2 = z at *
    simp only [Act.put, List.setIfInBounds_toArray, List.set_cons_succ, List.set_cons_zero]
    refine pc_quiet 2 rfl (by omega) ?_
    simp only [List.take_succ_cons, List.take_zero]
    repeat (go_big_quiet_step (fail))
    refine wpQuiet_nil ?_
    refine wpMoves_nil ?_
    intro w4 g4 s4 r4
    have D2 := D1.more r4 g4
    clear q0 qn e0 e1 e2 e3 e4 ef D1 r4 g4 s4
    refine any_end0 (by kernel_rfl) ?_
    by_cases hlt : (l.length : Int) < 40 + z
    · have hgX := D2.gX g rfl
      have hgl : g < w4.heap.size := owns_lt D2.own g rfl
      obtain ⟨n, hn⟩ : ∃ n, l.length = n + 1 := ⟨l.length - 1, by omega⟩
      obtain ⟨tl, htl⟩ : ∃ tl, l[n]? = some tl := ⟨_, List.getElem?_eq_getElem (by omega)⟩
      have x0 := (D2.own.cellAt (n * 7 + 0) (by omega)).trans (stepCells_at l n tl 0 htl (by decide))
      have x1 := (D2.own.cellAt (n * 7 + 1) (by omega)).trans (stepCells_at l n tl 1 htl (by decide))
      have x2 := (D2.own.cellAt (n * 7 + 2) (by omega)).trans (stepCells_at l n tl 2 htl (by decide))
      have x3 := (D2.own.cellAt (n * 7 + 3) (by omega)).trans (stepCells_at l n tl 3 htl (by decide))
      have x4 := (D2.own.cellAt (n * 7 + 4) (by omega)).trans (stepCells_at l n tl 4 htl (by decide))
      have x5 := (D2.own.cellAt (n * 7 + 5) (by omega)).trans (stepCells_at l n tl 5 htl (by decide))
      have x6 := (D2.own.cellAt (n * 7 + 6) (by omega)).trans (stepCells_at l n tl 6 htl (by decide))
      rw [Nat.add_zero] at x0
      have HN : Hid (l.length = n + 1) := hn
      have m0 : (0 : Int) ≤ (n : Int) := by omega
      have m1 : (n : Int) < (n : Int) + 1 := by omega
      obtain ⟨⟨e0, e1, e2, e3, e4⟩, ef⟩ := D2.pa.cells
      clear htl
      rw [hn] at e2
      rw [hn] at hlt
      have hZs := D2.res.lt
      have hXs := D2.pa.lt
      by_cases hx : 0 < tl.x
      · have D5 := (D2.alloc (.cells #[.int .i64 (wrap64 (tl.x - 1)), .int .i64 tl.y, .int .i64 tl.lo, .int .i64 tl.hi, .int .i64 tl.fr, .int .i64 tl.by_, .bool tl.ho] 44)).alloc (.cells #[.int .i64 (wrap64 (tl.x - 1)), .int .i64 tl.y, .int .i64 tl.lo, .int .i64 tl.hi, .int .i64 tl.fr, .int .i64 tl.by_, .bool tl.ho] 44)
        have hnew := seven_new (w4.alloc (.cells #[.int .i64 (wrap64 (tl.x - 1)), .int .i64 tl.y, .int .i64 tl.lo, .int .i64 tl.hi, .int .i64 tl.fr, .int .i64 tl.by_, .bool tl.ho] 44)) ⟨wrap64 (tl.x - 1), tl.y, tl.lo, tl.hi, tl.fr, tl.by_, tl.ho⟩ 44
        rw [World.size_alloc] at hnew
        have ho5 : ((w4.alloc (.cells #[.int .i64 (wrap64 (tl.x - 1)), .int .i64 tl.y, .int .i64 tl.lo, .int .i64 tl.hi, .int .i64 tl.fr, .int .i64 tl.by_, .bool tl.ho] 44)).alloc (.cells #[.int .i64 (wrap64 (tl.x - 1)), .int .i64 tl.y, .int .i64 tl.lo, .int .i64 tl.hi, .int .i64 tl.fr, .int .i64 tl.by_, .bool tl.ho] 44)).ownsRow (w.heap.size + 1 + 1) 44 7 (.slice (some ⟨g, 0, none⟩) (n + 1) gc) l.length (stepCells l) := by rw [← hn]; exact D5.own
        go_wp2_with (at_builtin; refine wpList_append_own _ rfl (.tmp 171) (.tmp 173) 25 rfl (w.heap.size + 1 + 1) 44 i0 (.agg #[.int .i64 0, .int .i64 0, .int .i64 0, .int .i64 0, .int .i64 0, .int .i64 0, .bool false]) 7 56 Tryz.underlying25 hinf hz0 hz1 hz2 rfl (by decide) (.slice (some ⟨g, 0, none⟩) (n + 1) gc) l.length (stepCells l) rfl ho5 ⟨w4.heap.size + 1, 0, none⟩ 1 1 (Stp.cells ⟨wrap64 (tl.x - 1), tl.y, tl.lo, tl.hi, tl.fr, tl.by_, tl.ho⟩) rfl rfl hnew (by simp [Value.oneCell']) (by unfold maxLen; omega) (by omega) (by simp; omega) ?_; intro v6 w6 hown6 hgrow6 hnil6; obtain ⟨g6, gc6, rfl, _, _⟩ := owns_some hown6 (by omega); obtain ⟨hpa6, D6⟩ := D5.append (t := ⟨wrap64 (tl.x - 1), tl.y, tl.lo, tl.hi, tl.fr, tl.by_, tl.ho⟩) hown6 (by rw [hn]; exact hgrow6); obtain ⟨⟨_, _, f2, _, _⟩, ff⟩ := hpa6.cells)
        have D7 : SpD w (w6.setCell ⟨X, 2, none⟩ (.slice (some ⟨g6, 0, none⟩) (l.length + 1) gc6)) B R (p' + 1) (w.heap.size + 1) X q s fr b (.slice (some ⟨g6, 0, none⟩) (l ++ [(⟨wrap64 (tl.x - 1), tl.y, tl.lo, tl.hi, tl.fr, tl.by_, tl.ho⟩ : Stp)]).length gc6) (l ++ [(⟨wrap64 (tl.x - 1), tl.y, tl.lo, tl.hi, tl.fr, tl.by_, tl.ho⟩ : Stp)]) := by
          rw [List.length_append]; exact D6
        have L7 : lenAt (w6.setCell ⟨X, 2, none⟩ (.slice (some ⟨g6, 0, none⟩) (l.length + 1) gc6)) X = l.length + 1 := by unfold lenAt; rw [D6.pa.cells.1.2.2.1]
        rw [hn] at D7 L7
        go_roundw
        case rel => exact ⟨g6, gc6, p' + 1, _, by simp, by simp; omega, by simp; omega, D7⟩
        case measure =>
          have h9 := HLA.out
          show 42 - lenAt _ X < 42 - lenAt _ X
          rw [L7, h9]
          omega
      · have D5 := (D2.alloc (.cells #[.int .i64 (wrap64 (tl.x + 1)), .int .i64 tl.y, .int .i64 tl.lo, .int .i64 tl.hi, .int .i64 tl.fr, .int .i64 tl.by_, .bool tl.ho] 44)).alloc (.cells #[.int .i64 (wrap64 (tl.x + 1)), .int .i64 tl.y, .int .i64 tl.lo, .int .i64 tl.hi, .int .i64 tl.fr, .int .i64 tl.by_, .bool tl.ho] 44)
        have hnew := seven_new (w4.alloc (.cells #[.int .i64 (wrap64 (tl.x + 1)), .int .i64 tl.y, .int .i64 tl.lo, .int .i64 tl.hi, .int .i64 tl.fr, .int .i64 tl.by_, .bool tl.ho] 44)) ⟨wrap64 (tl.x + 1), tl.y, tl.lo, tl.hi, tl.fr, tl.by_, tl.ho⟩ 44
        rw [World.size_alloc] at hnew
        have ho5 : ((w4.alloc (.cells #[.int .i64 (wrap64 (tl.x + 1)), .int .i64 tl.y, .int .i64 tl.lo, .int .i64 tl.hi, .int .i64 tl.fr, .int .i64 tl.by_, .bool tl.ho] 44)).alloc (.cells #[.int .i64 (wrap64 (tl.x + 1)), .int .i64 tl.y, .int .i64 tl.lo, .int .i64 tl.hi, .int .i64 tl.fr, .int .i64 tl.by_, .bool tl.ho] 44)).ownsRow (w.heap.size + 1 + 1) 44 7 (.slice (some ⟨g, 0, none⟩) (n + 1) gc) l.length (stepCells l) := by rw [← hn]; exact D5.own
        go_wp2_with (at_builtin; refine wpList_append_own _ rfl (.tmp 171) (.tmp 173) 25 rfl (w.heap.size + 1 + 1) 44 i0 (.agg #[.int .i64 0, .int .i64 0, .int .i64 0, .int .i64 0, .int .i64 0, .int .i64 0, .bool false]) 7 56 Tryz.underlying25 hinf hz0 hz1 hz2 rfl (by decide) (.slice (some ⟨g, 0, none⟩) (n + 1) gc) l.length (stepCells l) rfl ho5 ⟨w4.heap.size + 1, 0, none⟩ 1 1 (Stp.cells ⟨wrap64 (tl.x + 1), tl.y, tl.lo, tl.hi, tl.fr, tl.by_, tl.ho⟩) rfl rfl hnew (by simp [Value.oneCell']) (by unfold maxLen; omega) (by omega) (by simp; omega) ?_; intro v6 w6 hown6 hgrow6 hnil6; obtain ⟨g6, gc6, rfl, _, _⟩ := owns_some hown6 (by omega); obtain ⟨hpa6, D6⟩ := D5.append (t := ⟨wrap64 (tl.x + 1), tl.y, tl.lo, tl.hi, tl.fr, tl.by_, tl.ho⟩) hown6 (by rw [hn]; exact hgrow6); obtain ⟨⟨_, _, f2, _, _⟩, ff⟩ := hpa6.cells)
        have D7 : SpD w (w6.setCell ⟨X, 2, none⟩ (.slice (some ⟨g6, 0, none⟩) (l.length + 1) gc6)) B R (p' + 1) (w.heap.size + 1) X q s fr b (.slice (some ⟨g6, 0, none⟩) (l ++ [(⟨wrap64 (tl.x + 1), tl.y, tl.lo, tl.hi, tl.fr, tl.by_, tl.ho⟩ : Stp)]).length gc6) (l ++ [(⟨wrap64 (tl.x + 1), tl.y, tl.lo, tl.hi, tl.fr, tl.by_, tl.ho⟩ : Stp)]) := by
          rw [List.length_append]; exact D6
        have L7 : lenAt (w6.setCell ⟨X, 2, none⟩ (.slice (some ⟨g6, 0, none⟩) (l.length + 1) gc6)) X = l.length + 1 := by unfold lenAt; rw [D6.pa.cells.1.2.2.1]
        rw [hn] at D7 L7
        go_roundw
        case rel => exact ⟨g6, gc6, p' + 1, _, by simp, by simp; omega, by simp; omega, D7⟩
        case measure =>
          have h9 := HLA.out
          show 42 - lenAt _ X < 42 - lenAt _ X
          rw [L7, h9]
          omega
    · obtain ⟨⟨e0, e1, e2, e3, e4⟩, ef⟩ := D2.pa.cells
      obtain ⟨⟨f0, f1, f2, f3, f4⟩, ff⟩ := D2.res.cells
      have hZX : w.heap.size + 1 ≠ X := by have := D2.lt; omega
      go_wp2
      refine bodyPost_ret (v := .agg #[.int .i64 q, .int .i64 s, .slice (some ⟨g, 0, none⟩) l.length gc, .int .i64 fr, .int .i64 b]) (by simp [results, Tryz.results78, go_sem, *]) rfl ?_
      exact D2.post (by omega) (by omega)

end Go.Proofs.YtijcdikekgmfoaaGreatDoor

namespace Go.Proofs.YtijcdikekgmfoaaGreatDoor
open Go.RowKit

section
variable {P : Program} {Q : Exit → Act → World → Prop}
theorem region_reads {id : Nat} {a : Act} {w : World} {l : List Oper} (N : Nat) (L0 L1 : Array Bool) (hm : P.follows .mixedOrders = true) (hs : Region.noSelect l.toArray = true) (hN : N ≤ l.length) (hL0 : Array.replicate l.length false = L0) (hL1 : listN L0 0 N = L1) (hlex : lexM .any l.toArray N N 0 L0 = true)
    (hp : ((l.take N).all fun o => plainOp o.op) = true)
    (h : wpQuiet P l.toArray (fun w' => ∃ u : Cls w, w' = u.it) (fun a' => wpAny P .any l.toArray Q (l.length - N) L1 a' w.drew) (l.take N) a) :
    (Code.region id l.toArray true).wp P Q a w := by
  refine wp_region_moves_at (C := fun _ w' => w' = w.drew) N L0 L1 hm hs (by simpa using hN) (by simpa using hL0) hL1 hlex rfl ?_
  have e3 : l.toArray.toList.take N = l.take N ++ [] := by simp
  rw [e3]
  refine moves_quiet (U := fun w' => ∃ u : Cls w, w' = u.it) [] (fun L w' _ h => ⟨⟨w', by subst h; exact (Below.refl _ _).drew⟩, rfl⟩) (l.take N) 0 a hp (by simp) (fun _ _ _ _ _ hC => hC) ?_
  refine wpQuiet_mono ?_ _ _ h
  intro a2 h3
  refine wpMoves_nil (fun w' hC => ?_)
  subst hC
  simpa using h3
end
end Go.Proofs.YtijcdikekgmfoaaGreatDoor

namespace Go.Proofs.YtijcdikekgmfoaaGreatDoor
open Go.RowKit

/-- A step, so many ticks later. -/
def Stp.later (t : Stp) (d : Int) : Stp := { t with fr := t.fr + d, by_ := t.by_ + d }
def laterTo (d : Int) (l : List Stp) (k : Nat) : List Stp := (l.take k).map (·.later d) ++ l.drop k
def laterL (d : Int) (l : List Stp) : List Stp := l.map (·.later d)
theorem laterTo_zero (d : Int) (l : List Stp) : laterTo d l 0 = l := by simp [laterTo]
theorem laterTo_all (d : Int) (l : List Stp) : laterTo d l l.length = laterL d l := by simp [laterTo, laterL]
theorem laterTo_length (d : Int) (l : List Stp) (k : Nat) : (laterTo d l k).length = l.length := by simp [laterTo]; omega
theorem laterTo_now (d : Int) {l : List Stp} {k : Nat} {t : Stp} (h : l[k]? = some t) : (laterTo d l k)[k]? = some t := by
  have hk := (List.getElem?_eq_some_iff.1 h).1
  unfold laterTo
  rw [List.getElem?_append_right (by simp; omega)]
  simp only [List.length_map, List.length_take, List.getElem?_drop]
  rw [show k + (k - min k l.length) = k by omega]
  exact h
theorem laterTo_succ (d : Int) {l : List Stp} {k : Nat} {t : Stp} (h : l[k]? = some t) : laterTo d l (k + 1) = (laterTo d l k).set k (t.later d) := by
  have hk := (List.getElem?_eq_some_iff.1 h).1
  apply List.ext_getElem?
  intro i
  by_cases e : i = k
  · subst e
    rw [List.getElem?_set_self (by rw [laterTo_length]; exact hk)]
    unfold laterTo
    rw [List.getElem?_append_left (by simp; omega), List.getElem?_map, List.getElem?_take_of_lt (by omega), h]
    rfl
  · rw [List.getElem?_set_ne (Ne.symm e)]
    unfold laterTo
    by_cases c : i < k
    · rw [List.getElem?_append_left (by simp; omega), List.getElem?_append_left (by simp; omega), List.getElem?_map, List.getElem?_map, List.getElem?_take_of_lt (by omega), List.getElem?_take_of_lt c]
    · rw [List.getElem?_append_right (by simp; omega), List.getElem?_append_right (by simp; omega)]
      simp only [List.length_map, List.length_take, List.getElem?_drop]
      congr 1
      omega

theorem some_get2 {α : Type} {r : Option α} {xs : List α} {n i : Nat} (h : r = xs[i]?) (hl : xs.length = n) (hi : i < n) : ∃ y, r = some y :=
  ⟨_, h.trans (List.getElem?_eq_getElem (by omega))⟩

/-- What lies while a path is shifted. -/
structure ShD (w wr : World) (Z X : Nat) (q s fr b : Int) (v : Value) (l : List Stp) : Prop where
  old : Below w.heap.size w wr
  ge : w.heap.size ≤ Z
  lt : Z < X
  res : PathAt wr Z 0 0 0 0 (.slice none 0 0)
  pa : PathAt wr X q s fr b v
  own : wr.ownsRow (Z + 1) 44 7 v l.length (stepCells l)
section
variable {w wr w' : World} {Z X : Nat} {q s fr b : Int} {v : Value} {l : List Stp}
theorem ShD.gX (h : ShD w wr Z X q s fr b v l) : ∀ k, v.ownBlock = some k → k ≠ X ∧ Z < k := fun k hk => ⟨row_not_path h.own h.pa k hk, owns_base h.own k hk⟩
theorem ShD.below (h : ShD w wr Z X q s fr b v l) (hb : Below wr.heap.size wr w') : ShD w w' Z X q s fr b v l :=
  ⟨h.old.trans (hb.mono h.old.size), h.ge, h.lt, h.res.keep hb h.res.lt, h.pa.keep hb h.pa.lt, owns_below h.own hb⟩
theorem ShD.drew (h : ShD w wr Z X q s fr b v l) : ShD w wr.drew Z X q s fr b v l := h.below (Below.refl _ _).drew
theorem ShD.put {g gc : Nat} (h : ShD w wr Z X q s fr b (.slice (some ⟨g, 0, none⟩) l.length gc) l) {i j : Nat} {t t' : Stp} {u : Value} (ht : l[i]? = some t) (hj : j < 7) (he : t'.cells = t.cells.set j u) :
    ShD w (wr.setCell ⟨g, i * 7 + j, none⟩ u) Z X q s fr b (.slice (some ⟨g, 0, none⟩) (l.set i t').length gc) (l.set i t') := by
  rw [List.length_set]
  obtain ⟨h1, h2⟩ := h.gX g rfl
  have hi : i < l.length := (List.getElem?_eq_some_iff.1 ht).1
  have hge := h.ge
  refine ⟨h.old.setCell (p := ⟨g, i * 7 + j, none⟩) (by show _ ≤ g; omega) u, h.ge, h.lt, h.res.set (by show Z ≠ g; omega) u, h.pa.set (by show X ≠ g; omega) u, ?_⟩
  have h3 := owns_put h.own (j := i * 7 + j) (by omega) u
  rw [stepCells_put l i j t t' u ht hj he] at h3
  simpa using h3
theorem ShD.setX (h : ShD w wr Z X q s fr b v l) (j : Nat) (u : Value) {q' s' fr' b' : Int} {v' : Value} {l' : List Stp}
    (he : #[Value.int .i64 q, .int .i64 s, v, .int .i64 fr, .int .i64 b].setIfInBounds j u = #[.int .i64 q', .int .i64 s', v', .int .i64 fr', .int .i64 b']) (ho : wr.ownsRow (Z + 1) 44 7 v' l'.length (stepCells l')) (hX : ∀ k, v'.ownBlock = some k → k ≠ X) :
    ShD w (wr.setCell ⟨X, j, none⟩ u) Z X q' s' fr' b' v' l' := by
  have hge := h.ge
  have hlt := h.lt
  refine ⟨h.old.setCell (p := ⟨X, j, none⟩) (by show _ ≤ X; omega) u, h.ge, h.lt, h.res.set (by show Z ≠ X; omega) u, ⟨?_⟩, owns_set ho hX j u⟩
  rw [heap_setCell_same _ X j _ _ u h.pa.it, he]
end

/-- Whether it can be shifted. -/
def shiftB (q s fr b : Int) (l : List Stp) (d : Int) : Bool := pathB q s fr b l && inB d (-10000) 10000 && pathB q s (fr + d) (b + d) (laterL d l)

theorem shift_no {q s fr b : Int} {l : List Stp} {d : Int} (_h : shiftB q s fr b l d = false) (a : Option Addr) (b0 o cap : Nat) (w : World) (hl : l.length ≤ 1048576) (hs : StepsAt w a b0 o l) (h2 : pathB q s fr b l = false ∨ inB d (-10000) 10000 = false) :
    Calls Tryz.prog 116 #[.agg #[.int .i64 q, .int .i64 s, .slice a l.length cap, .int .i64 fr, .int .i64 b], .int .i64 d] w
      fun e w' => e = .returned (.tuple #[.agg #[.int .i64 0, .int .i64 0, .slice none 0 0, .int .i64 0, .int .i64 0], .bool false]) ∧ Below w.heap.size w w' := by
  have P0 := PathAt.new (w.alloc (.cells #[.int .i64 q, .int .i64 s, .slice a l.length cap, .int .i64 fr, .int .i64 b] 27)) 0 0 0 0 (.slice none 0 0)
  rw [World.size_alloc] at P0
  have B0 : Below w.heap.size w ((w.alloc (.cells #[.int .i64 q, .int .i64 s, .slice a l.length cap, .int .i64 fr, .int .i64 b] 27)).alloc (.cells #[.int .i64 0, .int .i64 0, .slice none 0 0, .int .i64 0, .int .i64 0] 27)) := ((Below.refl _ _).alloc (Nat.le_refl _) _).alloc (by simp) _
  go_enter Tryz.func116, Tryz.ntmps116
  go_wp2_with fail
  refine (pathS_any q s fr b a b0 o cap l _ hl ((hs.alloc _).alloc _)).mono ?_
  rintro e w1 ⟨rfl, hb1⟩
  have P1 := P0.keep hb1 P0.lt
  have B1 := B0.trans (hb1.mono B0.size)
  obtain ⟨⟨f0, f1, f2, f3, f4⟩, ff⟩ := P1.cells
  clear hb1 P0 B0
  cases hp : pathB q s fr b l with
  | false =>
    go_wp2
    refine bodyPost_ret (v := .tuple #[.agg #[.int .i64 0, .int .i64 0, .slice none 0 0, .int .i64 0, .int .i64 0], .bool false]) (by simp [results, Tryz.results116, go_sem, *]) rfl ⟨rfl, ?_⟩
    iterate 5 (refine Below.setCell ?_ (by show _ ≤ w.heap.size + 1; omega) _)
    exact B1
  | true =>
    have h3 := h2.resolve_left (by rw [hp]; simp)
    go_wp2_with fail
    refine (in_any d (-10000) 10000 _).mono ?_
    rintro e wx ⟨rfl, rfl⟩
    rw [h3]
    go_wp2
    refine bodyPost_ret (v := .tuple #[.agg #[.int .i64 0, .int .i64 0, .slice none 0 0, .int .i64 0, .int .i64 0], .bool false]) (by simp [results, Tryz.results116, go_sem, *]) rfl ⟨rfl, ?_⟩
    iterate 5 (refine Below.setCell ?_ (by show _ ≤ w.heap.size + 1; omega) _)
    exact B1

/-- The ticks of an ok path. -/
theorem step_ticks {q s fr b : Int} {l : List Stp} (h : pathB q s fr b l = true) {k : Nat} {t : Stp} (ht : l[k]? = some t) : 0 ≤ t.fr ∧ t.fr ≤ t.by_ ∧ t.by_ ≤ 10000 := by
  have hk := (List.getElem?_eq_some_iff.1 ht).1
  have hd : l.getD k .zero = t := by rw [List.getD_eq_getElem?_getD, ht]; rfl
  unfold pathB at h
  simp only [Bool.and_eq_true] at h
  have h1 := goodTo_le h.2 (show k + 1 ≤ l.length by omega)
  rw [goodTo_succ, Bool.and_eq_true] at h1
  have h2 := h1.2
  unfold goodS at h2
  rw [Bool.and_eq_true, hd] at h2
  have h3 := h2.1
  unfold stepB at h3
  simp only [decide_eq_true_eq] at h3
  omega
theorem end_ticks {q s fr b : Int} {l : List Stp} (h : pathB q s fr b l = true) : 0 ≤ fr ∧ fr ≤ b ∧ b ≤ 10000 := by
  unfold pathB at h
  simp only [Bool.and_eq_true, inB_iff, decide_eq_true_eq] at h
  omega

set_option maxRecDepth 20000 in
set_option maxHeartbeats 4000000 in
theorem shift_yes (q s fr b d : Int) (a : Option Addr) (b0 o cap : Nat) (l : List Stp) (w : World) (hs : StepsAt w a b0 o l) (hp : pathB q s fr b l = true) (hd : inB d (-10000) 10000 = true) :
    Calls Tryz.prog 116 #[.agg #[.int .i64 q, .int .i64 s, .slice a l.length cap, .int .i64 fr, .int .i64 b], .int .i64 d] w
      fun e w' => (pathB q s (fr + d) (b + d) (laterL d l) = false ∧ e = .returned (.tuple #[.agg #[.int .i64 0, .int .i64 0, .slice none 0 0, .int .i64 0, .int .i64 0], .bool false]) ∧ Below w.heap.size w w') ∨
        (pathB q s (fr + d) (b + d) (laterL d l) = true ∧ ∃ g gc, e = .returned (.tuple #[.agg #[.int .i64 q, .int .i64 s, .slice (some ⟨g, 0, none⟩) l.length gc, .int .i64 (fr + d), .int .i64 (b + d)], .bool true]) ∧
          w'.ownsRow w.heap.size 44 7 (.slice (some ⟨g, 0, none⟩) l.length gc) l.length (stepCells (laterL d l)) ∧ Below w.heap.size w w') := by
  have hlen := path_len hp
  have het := end_ticks hp
  have hdr := (inB_iff _ _ _).1 hd
  have HP : Hid (pathB q s fr b l = true) := hp
  have P0 := PathAt.new (w.alloc (.cells #[.int .i64 q, .int .i64 s, .slice a l.length cap, .int .i64 fr, .int .i64 b] 27)) 0 0 0 0 (.slice none 0 0)
  rw [World.size_alloc] at P0
  have Q0 := PathAt.new w q s fr b (.slice a l.length cap)
  have B0 : Below w.heap.size w ((w.alloc (.cells #[.int .i64 q, .int .i64 s, .slice a l.length cap, .int .i64 fr, .int .i64 b] 27)).alloc (.cells #[.int .i64 0, .int .i64 0, .slice none 0 0, .int .i64 0, .int .i64 0] 27)) := ((Below.refl _ _).alloc (Nat.le_refl _) _).alloc (by simp) _
  have Q0' := Q0.keep ((Below.refl _ _).alloc (Nat.le_refl _) (.cells #[.int .i64 0, .int .i64 0, .slice none 0 0, .int .i64 0, .int .i64 0] 27)) Q0.lt
  go_enter Tryz.func116, Tryz.ntmps116
  go_wp2_with fail
  refine (pathS_any q s fr b a b0 o cap l _ (by omega) ((hs.alloc _).alloc _)).mono ?_
  rw [hp]
  rintro e w1 ⟨rfl, hb1⟩
  have P1 := P0.keep hb1 P0.lt
  have Q1 := Q0'.keep hb1 Q0'.lt
  have B1 := B0.trans (hb1.mono B0.size)
  clear hb1 P0 B0 Q0 Q0' hp
  go_wp2_with fail
  refine (in_any d (-10000) 10000 _).mono ?_
  rintro e wx ⟨rfl, rfl⟩
  rw [hd]
  clear hd
  obtain ⟨⟨g0, g1, g2, g3, g4⟩, gf⟩ := Q1.cells
  go_wp2_with fail
  refine (copyS_any q s fr b a b0 o cap l _ hlen.1 (by omega) (hs.below B1 hs.lt)).mono ?_
  rintro e w2 ⟨g, gc, rfl, ho2, hb2⟩
  have D1 : ShD w (w2.alloc (.cells #[.int .i64 q, .int .i64 s, .slice (some ⟨g, 0, none⟩) l.length gc, .int .i64 fr, .int .i64 b] 27)) (w.heap.size + 1) w2.heap.size q s fr b (.slice (some ⟨g, 0, none⟩) l.length gc) l := by
    have P2 := P1.keep hb2 P1.lt
    have B2 := B1.trans (hb2.mono B1.size)
    refine ⟨B2.alloc B2.size _, by omega, P2.lt, P2.keep ((Below.refl _ _).alloc (Nat.le_refl _) _) P2.lt, PathAt.new w2 q s fr b _, owns_below ⟨ho2.1, ho2.2.imp id fun ⟨g', cap', cur, h1, h2, h3⟩ => ⟨g', cap', cur, h1, ?_, h3⟩⟩ ((Below.refl _ _).alloc (Nat.le_refl _) _)⟩
    have := P1.lt
    omega
  clear P1 Q1 B1 ho2 hb2 g0 g1 g2 g3 g4 gf
  have D2 : ShD w (w2.alloc (.cells #[.int .i64 q, .int .i64 s, .slice (some ⟨g, 0, none⟩) l.length gc, .int .i64 fr, .int .i64 b] 27)) (w.heap.size + 1) w2.heap.size q s fr b (.slice (some ⟨g, 0, none⟩) (laterTo d l 0).length gc) (laterTo d l 0) := by
    rw [laterTo_zero]
    exact D1
  clear D1
  go_wp2
  generalize w2.heap.size = X at *
  go_loopw [7] (fun s7 wr => ∃ k : Nat, s7 = .int .i64 (k : Int) ∧ k ≤ l.length ∧ ShD w wr (w.heap.size + 1) X q s fr b (.slice (some ⟨g, 0, none⟩) (laterTo d l k).length gc) (laterTo d l k)) (fun s7 _ => l.length - (intOf s7).toNat)
  case atStart => exact ⟨0, rfl, by omega, D2⟩
  case round =>
    obtain ⟨k, rfl, hk, D3⟩ := hrel
    clear D2
    by_cases hlt : k < l.length
    · obtain ⟨t, ht⟩ : ∃ t, l[k]? = some t := ⟨_, List.getElem?_eq_getElem hlt⟩
      obtain ⟨t0, t1, t2⟩ := step_ticks HP.out ht
      have k0 : (0 : Int) ≤ (k : Int) := by omega
      have k1 : (k : Int) < (l.length : Int) := by omega
      have hnow := laterTo_now d ht
      have x4 := (D3.own.cellAt (k * 7 + 4) (by rw [laterTo_length]; omega)).trans (stepCells_at _ k t 4 hnow (by decide))
      have HT : Hid (l[k]? = some t) := ht
      have HNow : Hid ((laterTo d l k)[k]? = some t) := hnow
      obtain ⟨⟨e0, e1, e2, e3, e4⟩, ef⟩ := D3.pa.cells
      rw [laterTo_length] at e2
      have hgl : g < wr.heap.size := owns_lt D3.own g rfl
      clear ht hnow
      go_wp2
      have qn := Cls.any wr
      have q0 : ∀ u : Cls wr, u.it.cell? ⟨X, 2, none⟩ = some (.slice (some ⟨g, 0, none⟩) l.length gc) := fun u => (Cls.cell D3.pa.lt u 2).trans e2
      have y4 : ∀ u : Cls wr, u.it.cell? ⟨g, k * 7 + 4, none⟩ = some (.int .i64 t.fr) := fun u => (Cls.cell hgl u _).trans x4
      refine region_reads 13 _ _ (by kernel_rfl) (by kernel_rfl) (by decide) rfl rfl (by kernel_rfl) rfl ?_
      simp only [List.take_succ_cons, List.take_zero]
      repeat (go_big_quiet_step (fail))
      refine wpQuiet_nil ?_
      refine any_end1 (N := 13) _ rfl (by kernel_rfl) (by kernel_rfl) rfl rfl ?_
      obtain ⟨u0, hc⟩ := some_get2 (D3.own.cellAt (k * 7 + 4) (by rw [laterTo_length]; omega)) D3.own.1 (by rw [laterTo_length]; omega)
      have hf := D3.own.frozenAt
      have D4 := (D3.put (t' := { t with fr := t.fr + d }) HNow.out (j := 4) (u := .int .i64 (t.fr + d)) (by decide) rfl).drew
      clear q0 y4 qn e0 e1 e2 e3 e4 ef D3
      unfold Oper.wp
      go_simp
      clear hc hf x4
      generalize (wr.setCell ⟨g, k * 7 + 4, none⟩ (.int .i64 (t.fr + d))).drew = w4 at *
      have hnow : ((laterTo d l k).set k { t with fr := t.fr + d })[k]? = some { t with fr := t.fr + d } := List.getElem?_set_self (by rw [laterTo_length]; exact hlt)
      have x5 := (D4.own.cellAt (k * 7 + 5) (by rw [List.length_set, laterTo_length]; omega)).trans (stepCells_at _ k _ 5 hnow (by decide))
      have HNow2 : Hid (((laterTo d l k).set k { t with fr := t.fr + d })[k]? = some { t with fr := t.fr + d }) := hnow
      obtain ⟨⟨e0, e1, e2, e3, e4⟩, ef⟩ := D4.pa.cells
      rw [List.length_set, laterTo_length] at e2
      have hgl4 : g < w4.heap.size := owns_lt D4.own g rfl
      clear hnow hgl
      go_wp2
      have qn := Cls.any w4
      have q0 : ∀ u : Cls w4, u.it.cell? ⟨X, 2, none⟩ = some (.slice (some ⟨g, 0, none⟩) l.length gc) := fun u => (Cls.cell D4.pa.lt u 2).trans e2
      have y5 : ∀ u : Cls w4, u.it.cell? ⟨g, k * 7 + 5, none⟩ = some (.int .i64 t.by_) := fun u => (Cls.cell hgl4 u _).trans x5
      refine region_reads 13 _ _ (by kernel_rfl) (by kernel_rfl) (by decide) rfl rfl (by kernel_rfl) rfl ?_
      simp only [List.take_succ_cons, List.take_zero]
      repeat (go_big_quiet_step (fail))
      refine wpQuiet_nil ?_
      refine any_end1 (N := 13) _ rfl (by kernel_rfl) (by kernel_rfl) rfl rfl ?_
      obtain ⟨u0, hc⟩ := some_get2 (D4.own.cellAt (k * 7 + 5) (by rw [List.length_set, laterTo_length]; omega)) D4.own.1 (by rw [List.length_set, laterTo_length]; omega)
      have hf := D4.own.frozenAt
      have D5 := (D4.put (t' := t.later d) HNow2.out (j := 5) (u := .int .i64 (t.by_ + d)) (by decide) rfl).drew
      rw [List.set_set, ← laterTo_succ d HT.out] at D5
      clear q0 y5 qn e0 e1 e2 e3 e4 ef D4
      unfold Oper.wp
      go_simp
      clear hc hf x5
      generalize (w4.setCell ⟨g, k * 7 + 5, none⟩ (.int .i64 (t.by_ + d))).drew = w5 at *
      go_wp2
      go_roundw
      case rel => exact ⟨k + 1, by simp, by omega, D5⟩
      case measure => simp [intOf]; omega
    · obtain rfl : k = l.length := by omega
      rw [laterTo_all] at D3
      have hll : (laterL d l).length = l.length := by simp [laterL]
      have D6 := (D3.setX 3 (.int .i64 (fr + d)) (q' := q) (s' := s) (fr' := fr + d) (b' := b) (v' := .slice (some ⟨g, 0, none⟩) (laterL d l).length gc) rfl D3.own (fun k e => (D3.gX k e).1))
      have D7 := (D6.setX 4 (.int .i64 (b + d)) (q' := q) (s' := s) (fr' := fr + d) (b' := b + d) (v' := .slice (some ⟨g, 0, none⟩) (laterL d l).length gc) rfl D6.own (fun k e => (D6.gX k e).1))
      obtain ⟨⟨e0, e1, e2, e3, e4⟩, ef⟩ := D3.pa.cells
      rw [hll] at e2
      have hst := steps_owned D7.own
      have HD : Hid (ShD w ((wr.setCell ⟨X, 3, none⟩ (.int .i64 (fr + d))).setCell ⟨X, 4, none⟩ (.int .i64 (b + d))) (w.heap.size + 1) X q s (fr + d) (b + d) (.slice (some ⟨g, 0, none⟩) (laterL d l).length gc) (laterL d l)) := D7
      clear D6 D7 D3
      go_wp2_with fail
      have hcon := pathS_any q s (fr + d) (b + d) (some ⟨g, 0, none⟩) g 0 gc (laterL d l) _ (by omega) hst
      rw [hll] at hcon
      refine hcon.mono ?_
      rintro e w6 ⟨rfl, hb6⟩
      have D8 := HD.out.below hb6
      rw [hll] at D8
      clear hcon hst hb6 HD e0 e1 e2 e3 e4 ef
      obtain ⟨⟨e0, e1, e2, e3, e4⟩, ef⟩ := D8.pa.cells
      obtain ⟨⟨f0, f1, f2, f3, f4⟩, ff⟩ := D8.res.cells
      have hZX : w.heap.size + 1 ≠ X := by have := D8.lt; omega
      have hge := D8.ge
      cases hp2 : pathB q s (fr + d) (b + d) (laterL d l) with
      | false =>
        go_wp2
        refine bodyPost_ret (v := .tuple #[.agg #[.int .i64 0, .int .i64 0, .slice none 0 0, .int .i64 0, .int .i64 0], .bool false]) (by simp [results, Tryz.results116, go_sem, *]) rfl (.inl ⟨hp2, rfl, ?_⟩)
        iterate 5 (refine Below.setCell ?_ (by show _ ≤ w.heap.size + 1; omega) _)
        exact D8.old
      | true =>
        have hp2' : Hid (pathB q s (fr + d) (b + d) (laterL d l) = true) := hp2
        clear hp2
        go_wp2
        refine bodyPost_ret (v := .tuple #[.agg #[.int .i64 q, .int .i64 s, .slice (some ⟨g, 0, none⟩) l.length gc, .int .i64 (fr + d), .int .i64 (b + d)], .bool true]) (by simp [results, Tryz.results116, go_sem, *]) rfl (.inr ⟨hp2'.out, g, gc, rfl, ?_, ?_⟩)
        · have hh : ∀ k, (Value.slice (some ⟨g, 0, none⟩) l.length gc).ownBlock = some k → k ≠ w.heap.size + 1 := fun k e => by have := (D8.gX k e).2; omega
          have ho := D8.own
          rw [hll] at ho
          iterate 5 (refine owns_set ?_ hh _ _)
          exact ⟨ho.1, ho.2.imp id fun ⟨g, cap, cur, h1, h2, h3⟩ => ⟨g, cap, cur, h1, by omega, h3⟩⟩
        · iterate 5 (refine Below.setCell ?_ (by show _ ≤ w.heap.size + 1; omega) _)
          exact D8.old
end Go.Proofs.YtijcdikekgmfoaaGreatDoor

namespace Go.Proofs.YtijcdikekgmfoaaGreatDoor
open Go.RowKit

theorem spoil_draw (B : Nat) (R : Rdr) (p : Nat) (q s fr b : Int) (a : Option Addr) (b0 o cap : Nat) (l : List Stp) (w : World) (h : RdAt w B R p) (hp : p ≤ 999900000) (hl0 : 1 ≤ l.length) (hl : l.length ≤ 40) (hs : StepsAt w a b0 o l) :
    Calls Tryz.prog 78 #[.pointer (some ⟨B, 0, none⟩), .agg #[.int .i64 q, .int .i64 s, .slice a l.length cap, .int .i64 fr, .int .i64 b]] w (SpoilPost w B R p) := by
  obtain ⟨h1, h2⟩ := pickV_range (n := 12) h.rng (show p + 1 ≤ 1000000000 by omega) (by omega)
  have h3 : pickV R (p + 1) 12 = 0 ∨ pickV R (p + 1) 12 = 1 ∨ pickV R (p + 1) 12 = 2 ∨ pickV R (p + 1) 12 = 3 ∨ pickV R (p + 1) 12 = 4 ∨ pickV R (p + 1) 12 = 5 ∨ pickV R (p + 1) 12 = 6 ∨ pickV R (p + 1) 12 = 7 ∨ pickV R (p + 1) 12 = 8 ∨ pickV R (p + 1) 12 = 9 ∨ pickV R (p + 1) 12 = 10 ∨ pickV R (p + 1) 12 = 11 := by omega
  rcases h3 with e | e | e | e | e | e | e | e | e | e | e | e
  · exact spoil_0 B R p q s fr b a b0 o cap l w h hp hl0 hl hs e
  · exact spoil_1 B R p q s fr b a b0 o cap l w h hp hl0 hl hs e
  · exact spoil_2 B R p q s fr b a b0 o cap l w h hp hl0 hl hs e
  · exact spoil_3 B R p q s fr b a b0 o cap l w h hp hl0 hl hs e
  · exact spoil_4 B R p q s fr b a b0 o cap l w h hp hl0 hl hs e
  · exact spoil_5 B R p q s fr b a b0 o cap l w h hp hl0 hl hs e
  · exact spoil_6 B R p q s fr b a b0 o cap l w h hp hl0 hl hs e
  · exact spoil_7 B R p q s fr b a b0 o cap l w h hp hl0 hl hs e
  · exact spoil_8 B R p q s fr b a b0 o cap l w h hp hl0 hl hs e
  · exact spoil_9 B R p q s fr b a b0 o cap l w h hp hl0 hl hs e
  · exact spoil_10 B R p q s fr b a b0 o cap l w h hp hl0 hl hs e
  · exact spoil_11 B R p q s fr b a b0 o cap l w h hp hl0 hl hs e

/-- What a path that is drawn late comes to. -/
def LatePost (w : World) (pv : Value) (e : Ending) (w' : World) : Prop :=
  Below w.heap.size w w' ∧ (e = .returned pv ∨ ∃ q s fr b g gc l, e = .returned (.agg #[.int .i64 q, .int .i64 s, .slice (some ⟨g, 0, none⟩) l.length gc, .int .i64 fr, .int .i64 b]) ∧ l.length ≤ 41 ∧
    w'.ownsRow w.heap.size 44 7 (.slice (some ⟨g, 0, none⟩) l.length gc) l.length (stepCells l))

theorem shift_any (q s fr b d : Int) (a : Option Addr) (b0 o cap : Nat) (l : List Stp) (w : World) (hl : l.length ≤ 1048576) (hs : StepsAt w a b0 o l) :
    Calls Tryz.prog 116 #[.agg #[.int .i64 q, .int .i64 s, .slice a l.length cap, .int .i64 fr, .int .i64 b], .int .i64 d] w
      fun e w' => Below w.heap.size w w' ∧ ((shiftB q s fr b l d = false ∧ e = .returned (.tuple #[.agg #[.int .i64 0, .int .i64 0, .slice none 0 0, .int .i64 0, .int .i64 0], .bool false])) ∨
        (shiftB q s fr b l d = true ∧ ∃ g gc, e = .returned (.tuple #[.agg #[.int .i64 q, .int .i64 s, .slice (some ⟨g, 0, none⟩) l.length gc, .int .i64 (fr + d), .int .i64 (b + d)], .bool true]) ∧
          w'.ownsRow w.heap.size 44 7 (.slice (some ⟨g, 0, none⟩) l.length gc) l.length (stepCells (laterL d l)))) := by
  cases h1 : pathB q s fr b l with
  | false =>
    have hf : shiftB q s fr b l d = false := by unfold shiftB; rw [h1]; rfl
    refine (shift_no hf a b0 o cap w hl hs (.inl h1)).mono ?_
    rintro e w' ⟨rfl, hb⟩
    exact ⟨hb, .inl ⟨hf, rfl⟩⟩
  | true =>
    cases h2 : inB d (-10000) 10000 with
    | false =>
      have hf : shiftB q s fr b l d = false := by unfold shiftB; rw [h1, h2]; rfl
      refine (shift_no hf a b0 o cap w hl hs (.inr h2)).mono ?_
      rintro e w' ⟨rfl, hb⟩
      exact ⟨hb, .inl ⟨hf, rfl⟩⟩
    | true =>
      have hf : shiftB q s fr b l d = pathB q s (fr + d) (b + d) (laterL d l) := by unfold shiftB; rw [h1, h2]; rfl
      refine (shift_yes q s fr b d a b0 o cap l w hs h1 h2).mono ?_
      rintro e w' (⟨h3, rfl, hb⟩ | ⟨h3, g, gc, rfl, ho, hb⟩)
      · exact ⟨hb, .inl ⟨hf.trans h3, rfl⟩⟩
      · exact ⟨hb, .inr ⟨hf.trans h3, g, gc, rfl, ho⟩⟩

set_option maxRecDepth 20000 in
set_option maxHeartbeats 4000000 in
theorem late_draw (q s fr b : Int) (a : Option Addr) (b0 o cap : Nat) (l : List Stp) (w : World) (hl : l.length ≤ 40) (hs : StepsAt w a b0 o l) :
    Calls Tryz.prog 87 #[.agg #[.int .i64 q, .int .i64 s, .slice a l.length cap, .int .i64 fr, .int .i64 b]] w (LatePost w (.agg #[.int .i64 q, .int .i64 s, .slice a l.length cap, .int .i64 fr, .int .i64 b])) := by
  have Q0 := PathAt.new w q s fr b (.slice a l.length cap)
  have Q1 := Q0.keep ((Below.refl _ _).alloc (Nat.le_refl _) (.cells #[.int .i64 0, .int .i64 0, .slice none 0 0, .int .i64 0, .int .i64 0] 27)) Q0.lt
  have P1 := PathAt.new (w.alloc (.cells #[.int .i64 q, .int .i64 s, .slice a l.length cap, .int .i64 fr, .int .i64 b] 27)) 0 0 0 0 (.slice none 0 0)
  rw [World.size_alloc] at P1
  have B1 : Below w.heap.size w ((w.alloc (.cells #[.int .i64 q, .int .i64 s, .slice a l.length cap, .int .i64 fr, .int .i64 b] 27)).alloc (.cells #[.int .i64 0, .int .i64 0, .slice none 0 0, .int .i64 0, .int .i64 0] 27)) := ((Below.refl _ _).alloc (Nat.le_refl _) _).alloc (by simp) _
  go_enter Tryz.func87, Tryz.ntmps87
  go_wp2
  go_loopw [3, 4] (fun s3 s4 wr => ∃ (m : Int) (k : Nat), s3 = .int .i64 m ∧ s4 = .int .i64 (k : Int) ∧ k ≤ l.length ∧ Below w.heap.size w wr ∧ PathAt wr w.heap.size q s fr b (.slice a l.length cap) ∧ PathAt wr (w.heap.size + 1) 0 0 0 0 (.slice none 0 0)) (fun _ s4 _ => l.length - (intOf s4).toNat)
  case atStart => exact ⟨b, 0, rfl, rfl, by omega, B1, Q1, P1⟩
  case round =>
    obtain ⟨m, k, rfl, rfl, hk, B2, Q2, P2⟩ := hrel
    clear Q0 Q1 P1 B1
    obtain ⟨⟨e0, e1, e2, e3, e4⟩, ef⟩ := Q2.cells
    by_cases hlt : k < l.length
    · obtain ⟨t, ht⟩ : ∃ t, l[k]? = some t := ⟨_, List.getElem?_eq_getElem hlt⟩
      have hne : l ≠ [] := by intro e; rw [e] at hlt; simp at hlt
      obtain rfl := hs.here hne
      have hs2 := hs.below B2 hs.lt
      obtain ⟨x0, x1, x2, x3, x4, x5, x6⟩ := hs2.seven ht
      have k0 : (0 : Int) ≤ (k : Int) := by omega
      have k1 : (k : Int) < (l.length : Int) := by omega
      go_wp2_with fail
      refine (max_any m t.by_ _).mono ?_
      rintro e wx ⟨rfl, rfl⟩
      generalize mxB m t.by_ = m2
      go_wp2
      go_roundw
      case rel => exact ⟨m2, k + 1, rfl, by simp, by omega, B2, Q2, P2⟩
      case measure => simp [intOf]; omega
    · obtain rfl : k = l.length := by omega
      go_wp2_with fail
      generalize wrap64 (10000 - m) = d
      refine (shift_any q s fr b d a b0 o cap l _ (by omega) (hs.below B2 hs.lt)).mono ?_
      rintro e w3 ⟨hb3, hor⟩
      have Q3 := Q2.keep hb3 Q2.lt
      have P3 := P2.keep hb3 P2.lt
      have B3 := B2.trans (hb3.mono B2.size)
      have hz2 := B2.size
      have hpl2 := P2.lt
      have hz3 := B3.size
      clear e0 e1 e2 e3 e4 ef Q2 P2
      rcases hor with ⟨h1, rfl⟩ | ⟨h1, g, gc, rfl, ho⟩
      · obtain ⟨⟨e0, e1, e2, e3, e4⟩, ef⟩ := Q3.cells
        obtain ⟨⟨f0, f1, f2, f3, f4⟩, ff⟩ := P3.cells
        have hq3 := Q3.lt
        have hp3 := P3.lt
        clear h1
        go_wp2
        refine bodyPost_ret (v := .agg #[.int .i64 q, .int .i64 s, .slice a l.length cap, .int .i64 fr, .int .i64 b]) (by simp [results, Tryz.results87, go_sem, *]) rfl ⟨?_, .inl rfl⟩
        refine Below.alloc ?_ (by simp [World.setCell]; omega) _
        iterate 5 (refine Below.setCell ?_ (by show _ ≤ w.heap.size + 1; omega) _)
        exact B3
      · obtain ⟨⟨e0, e1, e2, e3, e4⟩, ef⟩ := Q3.cells
        obtain ⟨⟨f0, f1, f2, f3, f4⟩, ff⟩ := P3.cells
        have hq3 := Q3.lt
        have hp3 := P3.lt
        clear h1
        have hll : (laterL d l).length = l.length := by simp [laterL]
        have HL : Hid ((laterL d l).length = l.length) := hll
        clear hll
        go_wp2
        refine bodyPost_ret (v := .agg #[.int .i64 q, .int .i64 s, .slice (some ⟨g, 0, none⟩) l.length gc, .int .i64 (fr + d), .int .i64 (b + d)]) (by simp [results, Tryz.results87, go_sem, *]) rfl ⟨?_, .inr ⟨q, s, fr + d, b + d, g, gc, laterL d l, by rw [HL.out], by rw [HL.out]; omega, ?_⟩⟩
        · refine Below.alloc ?_ (by simp [World.setCell]; omega) _
          iterate 5 (refine Below.setCell ?_ (by show _ ≤ w.heap.size + 1; omega) _)
          exact B3
        · rw [HL.out]
          have hh : ∀ k, (Value.slice (some ⟨g, 0, none⟩) l.length gc).ownBlock = some k → k ≠ w.heap.size + 1 := fun k e => by have := owns_base ho k e; omega
          refine owns_below ?_ ((Below.refl _ _).alloc (Nat.le_refl _) _)
          iterate 5 (refine owns_set ?_ hh _ _)
          exact ⟨ho.1, ho.2.imp id fun ⟨g, cap, cur, h1, h2, h3⟩ => ⟨g, cap, cur, h1, by omega, h3⟩⟩

/-- Steps that lie in a block of steps. -/
structure StepsIn (w : World) (a : Option Addr) (b o : Nat) (l : List Stp) : Prop where
  st : StepsAt w a b o l
  ty : l ≠ [] → ∃ cur, w.heap[b]? = some (.cells cur 44 (0, 0))

/-- What a drawn path comes to. -/
def AnyPost (w : World) (B : Nat) (R : Rdr) (p : Nat) (e : Ending) (w' : World) : Prop :=
  ∃ q s fr b a b0 o cap l p', e = .returned (.agg #[.int .i64 q, .int .i64 s, .slice a l.length cap, .int .i64 fr, .int .i64 b]) ∧ l.length ≤ 41 ∧ StepsIn w' a b0 o l ∧ (l ≠ [] → w.heap.size ≤ b0) ∧ p' ≤ p + 5300 ∧ RdW w w' B R p'

theorem steps_of_owned {w : World} {base n : Nat} {v : Value} {l : List Stp} (h : w.ownsRow base 44 7 v n (stepCells l)) (hn : n = l.length) : ∃ a b0 o cap, v = .slice a l.length cap ∧ StepsIn w a b0 o l ∧ (l ≠ [] → base ≤ b0) := by
  subst hn
  rcases h.2 with ⟨rfl, h0⟩ | ⟨g, cap, cur, rfl, hg, hh, _⟩
  · have hl : l = [] := List.eq_nil_of_length_eq_zero h0
    subst hl
    exact ⟨none, 0, 0, 0, rfl, ⟨⟨fun h => absurd rfl h, fun h => absurd rfl h, fun i t hi => by simp at hi⟩, fun h => absurd rfl h⟩, fun h => absurd rfl h⟩
  · exact ⟨_, g, 0, cap, rfl, ⟨steps_owned h, fun _ => ⟨cur, hh⟩⟩, fun _ => hg⟩
theorem StepsAt.grown {w w' : World} {a : Option Addr} {b o : Nat} {l : List Stp} {row : Option Nat} (h : StepsAt w a b o l) (hg : w.grownBy w' row) (hr : l ≠ [] → row ≠ some b) : StepsAt w' a b o l where
  here := h.here
  lt hl := Nat.lt_of_lt_of_le (h.lt hl) hg.size
  cell i s hi j v hv := by
    have hne : l ≠ [] := by intro e; subst e; simp at hi
    rw [World.cell?_of_block (w := w) (a := ⟨b, o + i * 7 + j, none⟩) (hg.block b (h.lt hne) (fun e => hr hne e.symm))]
    exact h.cell i s hi j v hv

theorem StepsIn.grown {w w' : World} {a : Option Addr} {b o : Nat} {l : List Stp} {row : Option Nat} (h : StepsIn w a b o l) (hg : w.grownBy w' row) (hr : l ≠ [] → row ≠ some b) : StepsIn w' a b o l :=
  ⟨h.st.grown hg hr, fun hl => by
    obtain ⟨cur, hc⟩ := h.ty hl
    exact ⟨cur, (hg.block b (lt_of_block hc) (fun e => hr hl e.symm)).trans hc⟩⟩
theorem StepsIn.below {w w' : World} {a : Option Addr} {b o : Nat} {l : List Stp} (h : StepsIn w a b o l) (hb : Below w.heap.size w w') : StepsIn w' a b o l :=
  h.grown (row := none) ⟨hb.os, hb.tape, hb.output, hb.size, fun k hk _ => hb.block k hk⟩ (fun _ e => by cases e)
theorem StepsIn.alloc {w : World} {a : Option Addr} {b o : Nat} {l : List Stp} (h : StepsIn w a b o l) (ob : Obj) : StepsIn (w.alloc ob) a b o l := h.below ((Below.refl _ _).alloc (Nat.le_refl _) ob)
theorem StepsIn.put {w : World} {a : Option Addr} {b o : Nat} {l : List Stp} (h : StepsIn w a b o l) {k j : Nat} (hk : l ≠ [] → k ≠ b) (v : Value) : StepsIn (w.setCell ⟨k, j, none⟩ v) a b o l :=
  h.grown (grown_set w ⟨k, j, none⟩ v) (fun hl e => hk hl (by cases e; rfl))

def AnyPostC (w : World) (B : Nat) (R : Rdr) (p : Nat) (e : Ending) (w' : World) : Prop :=
  ∃ q s fr b a b0 o cap l p', e = .returned (.agg #[.int .i64 q, .int .i64 s, .slice a l.length cap, .int .i64 fr, .int .i64 b]) ∧ l.length ≤ 41 ∧ StepsIn w' a b0 o l ∧ (l ≠ [] → w.heap.size ≤ b0) ∧ p' ≤ p + 5300 ∧ RdW w w' B R p' ∧ l.length ≤ cap
theorem steps_of_ownedC {w : World} {base n : Nat} {v : Value} {l : List Stp} (h : w.ownsRow base 44 7 v n (stepCells l)) (hn : n = l.length) : ∃ a b0 o cap, v = .slice a l.length cap ∧ l.length ≤ cap ∧ StepsIn w a b0 o l ∧ (l ≠ [] → base ≤ b0) := by
  subst hn
  rcases h.2 with ⟨rfl, h0⟩ | ⟨g, cap, cur, rfl, hg, hh, hc, _⟩
  · have hl : l = [] := List.eq_nil_of_length_eq_zero h0
    subst hl
    exact ⟨none, 0, 0, 0, rfl, Nat.le_refl _, ⟨⟨fun h => absurd rfl h, fun h => absurd rfl h, fun i t hi => by simp at hi⟩, fun h => absurd rfl h⟩, fun h => absurd rfl h⟩
  · exact ⟨_, g, 0, cap, rfl, hc, ⟨steps_owned h, fun _ => ⟨cur, hh⟩⟩, fun _ => hg⟩

set_option maxRecDepth 20000 in
set_option maxHeartbeats 4000000 in
theorem any_drawC (B : Nat) (R : Rdr) (p : Nat) (w : World) (h : RdAt w B R p) (hp : p ≤ 999800000) :
    Calls Tryz.prog 34 #[.pointer (some ⟨B, 0, none⟩)] w (AnyPostC w B R p) := by
  have hB := lt_of_block h.blk
  have R0 := (RdW.refl h).alloc (.cells #[.int .i64 0, .int .i64 0, .slice none 0 0, .int .i64 0, .int .i64 0] 27)
  have P0 := PathAt.new w 0 0 0 0 (.slice none 0 0)
  go_enter Tryz.func34, Tryz.ntmps34
  go_wp2_with fail
  refine (path_draw B R p _ R0.rd (by omega)).mono ?_
  rintro e w1 ⟨q, s, fr, b, v, l, p1, rfl, hl1, hl2, ho1, hp1, R1'⟩
  have R1 := R0.more R1'.rd R1'.gr
  have P1 := P0.grown R1'.gr (by simp; omega)
  obtain ⟨a, b0, o, cap, rfl, hcap, hs1, hb0⟩ := steps_of_ownedC ho1 rfl
  have hne : l ≠ [] := by intro e; rw [e] at hl1; simp at hl1
  have hb1 := hb0 hne
  rw [World.size_alloc] at hb1
  obtain rfl := hs1.st.here hne
  clear R1' R0 P0 ho1 hb0
  have Q2 := PathAt.new w1 q s fr b (.slice (some ⟨b0, o, none⟩) l.length cap)
  have hz1 := P1.lt
  have R2 := R1.alloc (.cells #[.int .i64 q, .int .i64 s, .slice (some ⟨b0, o, none⟩) l.length cap, .int .i64 fr, .int .i64 b] 27)
  have P2 := P1.keep ((Below.refl _ _).alloc (Nat.le_refl _) (.cells #[.int .i64 q, .int .i64 s, .slice (some ⟨b0, o, none⟩) l.length cap, .int .i64 fr, .int .i64 b] 27)) P1.lt
  have hs2 := hs1.alloc (.cells #[.int .i64 q, .int .i64 s, .slice (some ⟨b0, o, none⟩) l.length cap, .int .i64 fr, .int .i64 b] 27)
  go_wp2_with fail
  refine (pick_any B R p1 12 _ R2.rd (by omega)).mono ?_
  rintro e w3 ⟨rfl, r3, g3, s3⟩
  have R3 := R2.more r3 g3
  have P3 := P2.grown g3 (by simp; omega)
  have Q3 := Q2.grown g3 (by simp; omega)
  have hs3 := hs2.grown g3 (fun _ => by simp; omega)
  clear R1 R2 P1 P2 Q2 hs1 hs2 r3 g3 s3
  generalize w1.heap.size = X at *
  generalize pickV R p1 12 = m
  obtain ⟨⟨e0, e1, e2, e3, e4⟩, ef⟩ := Q3.cells
  have hX : X ≠ w.heap.size := by omega
  by_cases h0 : m = 0
  · subst h0
    go_wp2_with fail
    refine (spoil_draw B R (p1 + 1) q s fr b (some ⟨b0, o, none⟩) b0 o cap l _ R3.rd (by omega) hl1 hl2 hs3.st).mono ?_
    rintro e w4 ⟨q', s', fr', b', v', l', p4, rfl, hl4, ho4, hp4, R4'⟩
    have R4 := R3.more R4'.rd R4'.gr
    have P4 := P3.grown R4'.gr (by simp; omega)
    have hz3 := P3.lt
    obtain ⟨a', c0, o', cap', rfl, hcap4, hs4, hc0⟩ := steps_of_ownedC ho4 rfl
    clear R4' ho4 Q3 P3 R3 e0 e1 e2 e3 e4 ef
    obtain ⟨⟨f0, f1, f2, f3, f4⟩, ff⟩ := P4.cells
    go_wp2
    refine bodyPost_ret (v := .agg #[.int .i64 q', .int .i64 s', .slice a' l'.length cap', .int .i64 fr', .int .i64 b']) (by simp [results, Tryz.results34, go_sem, *]) rfl ⟨q', s', fr', b', a', c0, o', cap', l', p4, rfl, hl4, ?_, fun h => by have := hc0 h; have := R4.size; omega, by omega, ?_, hcap4⟩
    · iterate 5 (refine StepsIn.put ?_ (fun h => by have := hc0 h; omega) _)
      exact hs4
    · iterate 5 (refine RdW.set ?_ (Nat.le_refl _) _ _)
      exact R4
  · have g0 : (m == 0) = false := beq_eq_false_iff_ne.2 h0
    by_cases h1 : m = 1
    · subst h1
      clear g0 h0
      go_wp2_with fail
      refine (late_draw q s fr b (some ⟨b0, o, none⟩) b0 o cap l _ hl2 hs3.st).mono ?_
      rintro e w4 ⟨hb4, hor⟩
      have R4 := R3.below hb4
      have P4 := P3.keep hb4 P3.lt
      have hz3 := P3.lt
      have hs4 := hs3.below hb4
      clear Q3 P3 e0 e1 e2 e3 e4 ef
      obtain ⟨⟨f0, f1, f2, f3, f4⟩, ff⟩ := P4.cells
      rcases hor with rfl | ⟨q', s', fr', b', g, gc, l', rfl, hl4, ho4⟩
      · go_wp2
        refine bodyPost_ret (v := .agg #[.int .i64 q, .int .i64 s, .slice (some ⟨b0, o, none⟩) l.length cap, .int .i64 fr, .int .i64 b]) (by simp [results, Tryz.results34, go_sem, *]) rfl ⟨q, s, fr, b, _, b0, o, cap, l, p1 + 1, rfl, by omega, ?_, fun _ => by omega, by omega, ?_, hcap⟩
        · iterate 5 (refine StepsIn.put ?_ (fun h => by omega) _)
          exact hs4
        · iterate 5 (refine RdW.set ?_ (Nat.le_refl _) _ _)
          exact R4
      · have hg := owns_base ho4 g rfl
        have hcap4 : l'.length ≤ gc := by
          rcases ho4.2 with ⟨h0, _⟩ | ⟨g', cap', cur, h1, _, _, hn, _⟩
          · cases h0
          · cases h1; exact hn
        have hs5 : StepsIn w4 (some ⟨g, 0, none⟩) g 0 l' := ⟨steps_owned ho4, fun _ => by
          rcases ho4.2 with ⟨h0, _⟩ | ⟨g', cap', cur, h1, _, hh, _⟩
          · cases h0
          · cases h1; exact ⟨cur, hh⟩⟩
        clear ho4
        go_wp2
        refine bodyPost_ret (v := .agg #[.int .i64 q', .int .i64 s', .slice (some ⟨g, 0, none⟩) l'.length gc, .int .i64 fr', .int .i64 b']) (by simp [results, Tryz.results34, go_sem, *]) rfl ⟨q', s', fr', b', _, g, 0, gc, l', p1 + 1, rfl, hl4, ?_, fun _ => by omega, by omega, ?_, hcap4⟩
        · iterate 5 (refine StepsIn.put ?_ (fun h => by omega) _)
          exact hs5
        · iterate 5 (refine RdW.set ?_ (Nat.le_refl _) _ _)
          exact R4
    · have g1 : (m == 1) = false := beq_eq_false_iff_ne.2 h1
      obtain ⟨⟨f0, f1, f2, f3, f4⟩, ff⟩ := P3.cells
      go_wp2
      refine bodyPost_ret (v := .agg #[.int .i64 q, .int .i64 s, .slice (some ⟨b0, o, none⟩) l.length cap, .int .i64 fr, .int .i64 b]) (by simp [results, Tryz.results34, go_sem, *]) rfl ⟨q, s, fr, b, _, b0, o, cap, l, p1 + 1, rfl, by omega, ?_, fun _ => by omega, by omega, ?_, hcap⟩
      · iterate 5 (refine StepsIn.put ?_ (fun h => by omega) _)
        exact hs3
      · iterate 5 (refine RdW.set ?_ (Nat.le_refl _) _ _)
        exact R3
theorem any_draw (B : Nat) (R : Rdr) (p : Nat) (w : World) (h : RdAt w B R p) (hp : p ≤ 999800000) :
    Calls Tryz.prog 34 #[.pointer (some ⟨B, 0, none⟩)] w (AnyPost w B R p) :=
  (any_drawC B R p w h hp).mono fun _ _ ⟨q, s, fr, b, a, b0, o, cap, l, p', h1, h2, h3, h4, h5, h6, _⟩ => ⟨q, s, fr, b, a, b0, o, cap, l, p', h1, h2, h3, h4, h5, h6⟩
end Go.Proofs.YtijcdikekgmfoaaGreatDoor
