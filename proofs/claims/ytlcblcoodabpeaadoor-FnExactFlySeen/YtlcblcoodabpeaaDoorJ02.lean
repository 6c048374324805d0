/- Joined texts: Follow, Follow2, SLeaf, Spec, IntsAt, LawSpec, Last, SpanSpec, SpanSaid. -/
import Derived.RangeFuncNested
import Derived.RangeFuncBound
import Derived.RangeFuncCalls
import Derived.RangeFuncLeaves
import Derived.Shelf.Abstract
import Derived.Shelf.RegionOpen
import Derived.WalkKit
import Derived.OwnWalkIn
import Derived.TacticsInMore
import Derived.LoopNIn
import Derived.LoopIn
import Derived.Stop.RegionWithIn
import Derived.WalkSpells
import Derived.Deep.Quiet
import Derived.Deep.RegionHeld3
import Derived.Deep.DeepCutAuto
import Derived.Test.YtlcblcoodabpeaaDoorRows
import Derived.Test.YtlcblcoodabpeaaDoorJ01
namespace Go.Proofs.YtlcblcoodabpeaaDoor
open Go.RowKit Go.Shelf
attribute [local go_sem] Oper.semAt_some

/-- The j-th pair of steps. -/
def pairAt (l : List Stp) (j : Nat) : Stp × Stp := (l.getD j .zero, l.getD (j + 1) .zero)
/-- The first k pairs. -/
def pairsTo (l : List Stp) (k : Nat) : List (Stp × Stp) := (List.range k).map (pairAt l)
theorem pairsTo_succ (l : List Stp) (k : Nat) : pairsTo l (k + 1) = pairsTo l k ++ [pairAt l k] := by simp [pairsTo, List.range_succ]
theorem pairsTo_length (l : List Stp) (k : Nat) : (pairsTo l k).length = k := by simp [pairsTo]

abbrev encP (x : Stp × Stp) : Array Value := #[x.1.val, x.2.val]

set_option maxRecDepth 100000 in
set_option maxHeartbeats 2000000 in
theorem pairs1_in (n : Nat) (hn : 1 ≤ n) (lp Bs n₀ b0 o cap : Nat) (a : Option Addr) (l : List Stp) (hl : l.length ≤ 1048576) (hBs : Bs < n₀) (hb0 : l ≠ [] → b0 < n₀) (J Jx : List (Stp × Stp) → World → Prop) (hJ : ∀ s A, J s A → J s A.drew)
    (hY : ∀ pre x W, J pre W → pre.length < l.length → YieldAt Fence.wide (n - 1) Tryd.prog lp (encP x) W fun e W' =>
      (e = .returned (.bool true) ∧ J (pre ++ [x]) W' ∧ Below n₀ W W') ∨ (e = .returned (.bool false) ∧ Jx (pre ++ [x]) W'))
    (W : World) (hc : W.cell? ⟨Bs, 0, none⟩ = some (.slice a l.length cap)) (hs : StepsAt W a b0 o l) (h0 : J [] W) :
    CallsIn Fence.wide n Tryd.prog 80 #[.func (.yield lp) #[] #[], .pointer (some ⟨Bs, 0, none⟩)] W fun e W' => (∃ v, e = .returned v) ∧
      ((∃ ys, ys = pairsTo l (l.length - 1) ∧ J ys W') ∨ (∃ pre, (∃ k, k ≤ l.length - 1 ∧ pre = pairsTo l k) ∧ Jx pre W')) := by
  refine callsIn_of_wp Tryd.func80 rfl trivial ?_ rfl
  simp only [Tryd.ntmps80, List.size_toArray, List.length_cons, List.length_nil, Nat.reduceAdd, Nat.reduceSub, Array.replicate_succ, Array.replicate_zero, List.push_toArray, List.append_toArray, List.nil_append, List.cons_append]
  gi_wp2
  gi_loopw [3] (fun i wr => ∃ k : Nat, k ≤ l.length - 1 ∧ i = .int .i64 (k + 1 : Nat) ∧ J (pairsTo l k) wr ∧ Below n₀ W wr) (fun i _ => l.length - (intOf i).toNat)
  case atStart => exact ⟨0, Nat.zero_le _, rfl, h0, Below.refl _ _⟩
  case round =>
    obtain ⟨k, hk, rfl, hJs, hnx⟩ := hrel
    have hcx := (hnx.cell (p := ⟨Bs, 0, none⟩) hBs).trans hc
    by_cases hlt : k + 1 < l.length
    · obtain ⟨p, hpk⟩ : ∃ p, l[k]? = some p := ⟨l[k], List.getElem?_eq_getElem (by omega)⟩
      obtain ⟨t, htk⟩ : ∃ t, l[k + 1]? = some t := ⟨l[k + 1], List.getElem?_eq_getElem hlt⟩
      have hne : l ≠ [] := by intro e; subst e; simp at hlt
      obtain rfl := hs.here hne
      have hs' := hs.below hnx hb0
      obtain ⟨c0, c1, c2, c3, c4, c5, c6⟩ := hs'.seven hpk
      obtain ⟨d0, d1, d2, d3, d4, d5, d6⟩ := hs'.seven htk
      have HP : Hid (pairAt l k = (p, t)) := by show _ = _; simp [pairAt, List.getD, hpk, htk]
      obtain ⟨fn, tmps, assign, body, hy, hR⟩ := hY _ (p, t) wr.drew (hJ _ _ hJs) (by rw [pairsTo_length]; omega)
      dsimp only [encP] at hy
      have hR' := hR.mono (R' := fun e W' => ∃ bb : Bool, e = .returned (.bool bb) ∧ ((bb = true ∧ J (pairsTo l k ++ [(p, t)]) W' ∧ Below n₀ wr.drew W') ∨ (bb = false ∧ Jx (pairsTo l k ++ [(p, t)]) W'))) (by
        rintro e W' (⟨h1, h2, h3⟩ | ⟨h1, h2⟩)
        · exact ⟨true, h1, .inl ⟨rfl, h2, h3⟩⟩
        · exact ⟨false, h1, .inr ⟨rfl, h2⟩⟩)
      clear hpk htk hs' hY hR
      have k0 : (0 : Int) ≤ (k : Int) := by omega
      have k1 : (k : Int) + 1 < (l.length : Int) := by omega
      have k2 : (k : Int) < (l.length : Int) := by omega
      have k3 : k < l.length := by omega
      have k4 : (0 : Int) ≤ (k : Int) + 1 := by omega
      have k5 : IntKind.i64.wrap (k : Int) = (k : Int) := by rw [IntKind.wrap_i64]; omega
      gi_wp2
      gi_region_with (refine hR'.mono ?_; rintro e W3 ⟨bb, rfl, hor⟩)
      all_goals
        cases bb with
        | true =>
          obtain ⟨hJ3, hk3⟩ : J (pairsTo l k ++ [(p, t)]) W3 ∧ Below n₀ wr.drew W3 := by simpa using hor
          gi_wp2
          go_roundw
          case rel => exact ⟨k + 1, by omega, by go_num, by rw [pairsTo_succ, HP.out]; exact hJ3, hnx.drew.trans hk3⟩
          case measure => simp [intOf]; omega
        | false =>
          have hJx3 : Jx (pairsTo l k ++ [(p, t)]) W3 := by simpa using hor
          gi_wp2
          refine bodyPost_ret (results_none rfl _ _ _) rfl ?_
          exact ⟨⟨_, rfl⟩, .inr ⟨_, ⟨k + 1, by omega, by rw [pairsTo_succ, HP.out]⟩, hJx3⟩⟩
    · obtain rfl : k = l.length - 1 := by omega
      gi_wp2
      go_end0
      exact ⟨⟨_, rfl⟩, .inl ⟨_, rfl, hJs⟩⟩
end Go.Proofs.YtlcblcoodabpeaaDoor

namespace Go.Proofs.YtlcblcoodabpeaaDoor
open Go.RowKit Go.Shelf
attribute [local go_sem] Oper.semAt_some

set_option maxHeartbeats 1000000 in
theorem pairs_in (n : Nat) (a : Option Addr) (len cap : Nat) (w : World) :
    CallsIn Fence.wide n Tryd.prog 76 #[.slice a len cap] w fun e w' => e = .returned (.func (.func 80) #[] #[.pointer (some ⟨w.heap.size, 0, none⟩)]) ∧ w' = w.alloc (.cells #[.slice a len cap] 29) := by
  refine callsIn_of_wp Tryd.func76 rfl trivial ?_ rfl
  simp only [Tryd.ntmps76, List.size_toArray, List.length_cons, List.length_nil, Nat.reduceAdd, Nat.reduceSub, Array.replicate_succ, Array.replicate_zero, List.push_toArray, List.append_toArray, List.nil_append, List.cons_append]
  gi_wp2
  go_ret
  exact ⟨rfl, rfl⟩

theorem pairs_stops (n : Nat) (hn : 1 ≤ n) (Bs n₀ b0 o cap : Nat) (a : Option Addr) (l : List Stp) (hl : l.length ≤ 1048576) (w : World) (hBs : Bs < n₀) (hn₀ : n₀ ≤ w.heap.size)
    (hc : w.cell? ⟨Bs, 0, none⟩ = some (.slice a l.length cap)) (hs : StepsAt w a b0 o l) (hb0 : l ≠ [] → b0 < n₀) :
    SeqStopsK Fence.wide n Tryd.prog 80 #[.pointer (some ⟨Bs, 0, none⟩)] encP (Below n₀) (fun ys => ys = pairsTo l (l.length - 1)) (fun pre => ∃ k, k ≤ l.length - 1 ∧ pre = pairsTo l k) l.length w := fun lp J Jx W hW hJ _ hY h0 =>
  pairs1_in n hn lp Bs n₀ b0 o cap a l hl hBs hb0 J Jx (fun s A h => hJ s A A.drew none h ⟨rfl, rfl, rfl, Nat.le_refl _, fun _ _ _ => rfl⟩ (fun r e => by cases e)) hY W
    ((hW.cell (p := ⟨Bs, 0, none⟩) (Nat.lt_of_lt_of_le hBs hn₀)).trans hc) (hs.below hW (fun h => Nat.lt_of_lt_of_le (hb0 h) hn₀)) h0

/-- A block that holds one step. -/
def BoxS (W : World) (B : Nat) (s : Stp) : Prop := W.heap[B]? = some (.cells #[.int .i64 s.x, .int .i64 s.y, .int .i64 s.lo, .int .i64 s.hi, .int .i64 s.fr, .int .i64 s.by_, .bool s.ho] 50 (0, 0))
theorem BoxS.lt {W : World} {B : Nat} {s : Stp} (h : BoxS W B s) : B < W.heap.size := (Array.getElem?_eq_some_iff.1 h).1
theorem BoxS.kept {W W' : World} {row : Option Nat} {B : Nat} {s : Stp} (h : BoxS W B s) (hg : W.grownBy W' row) (hne : some B ≠ row) : BoxS W' B s := (hg.block B h.lt hne).trans h
theorem BoxS.alloc {W : World} {B : Nat} {s : Stp} (h : BoxS W B s) (ob : Obj) : BoxS (W.alloc ob) B s := (Below.heap_alloc W ob B h.lt).trans h
theorem BoxS.new (W : World) (s : Stp) : BoxS (W.alloc (.cells #[.int .i64 s.x, .int .i64 s.y, .int .i64 s.lo, .int .i64 s.hi, .int .i64 s.fr, .int .i64 s.by_, .bool s.ho] 50)) W.heap.size s := World.alloc_heap_new W _
theorem BoxS.own {X Y : World} {row : Option Nat} {B : Nat} {s : Stp} (h : BoxS X B s) (hg : X.grownBy Y row) (hr : ∀ r, row = some r → ∃ ob : Obj, X.heap[r]? = some ob ∧ ob.isCells = false) : BoxS Y B s :=
  h.kept hg (fun e' => by obtain ⟨ob, ho, hc⟩ := hr B e'.symm; rw [show X.heap[B]? = _ from h] at ho; cases ho; cases hc)
theorem BoxS.seven {W : World} {B : Nat} {s : Stp} (h : BoxS W B s) :
    W.cell? ⟨B, 0, none⟩ = some (.int .i64 s.x) ∧ W.cell? ⟨B, 1, none⟩ = some (.int .i64 s.y) ∧ W.cell? ⟨B, 2, none⟩ = some (.int .i64 s.lo) ∧ W.cell? ⟨B, 3, none⟩ = some (.int .i64 s.hi) ∧
    W.cell? ⟨B, 4, none⟩ = some (.int .i64 s.fr) ∧ W.cell? ⟨B, 5, none⟩ = some (.int .i64 s.by_) ∧ W.cell? ⟨B, 6, none⟩ = some (.bool s.ho) := by
  refine ⟨?_, ?_, ?_, ?_, ?_, ?_, ?_⟩ <;> simp [World.cell?, show W.heap[B]? = _ from h]

theorem keeps_below {W W' : World} (h : Below W.heap.size W W') : KeepsOthers W W' :=
  ⟨h.size, fun k _ hk _ => (h.block k (Array.getElem?_eq_some_iff.1 hk).1).trans hk⟩
theorem boxed_below {W W' : World} {B : Nat} {t : TypeId} {v : Value} (h : Boxed W B t v) (hb : Below W.heap.size W W') : Boxed W' B t v := (hb.block B h.lt).trans h

/-- A pair of which the second follows the first, as the program asks it. -/
def folP (x : Stp × Stp) : Bool := folB x.2.x x.2.y x.2.lo x.2.hi x.1.x x.1.y x.1.lo x.1.hi
theorem folTo_pairs (l : List Stp) (k : Nat) : folTo l k = (pairsTo l k).all folP := by
  simp only [folTo, pairsTo, List.all_map]
  rfl

set_option maxRecDepth 100000 in
set_option maxHeartbeats 4000000 in
theorem follow_any : FollowSaid := by
  intro q s fr b a b0 o cap l w hl hs
  refine (callsIn_wide (n := 4)).1 ?_
  refine callsIn_of_wp_marks Tryd.func68 rfl trivial ?_ rfl
  simp only [Tryd.ntmps68, List.size_toArray, List.length_cons, List.length_nil, Nat.reduceAdd, Nat.reduceSub, Array.replicate_succ, Array.replicate_zero, List.push_toArray, List.append_toArray, List.nil_append, List.cons_append]
  gi_wp2_with (refine ⟨trivial, ?_⟩; gi_at_call 76; refine (pairs_in _ _ _ _ _).mono ?_; rintro e w' ⟨rfl, rfl⟩)
  have bR := (Boxed.new (w.alloc (.cells #[.int .i64 q, .int .i64 s, .slice a l.length cap, .int .i64 fr, .int .i64 b] 31)) 4 (.bool false)).alloc (.cells #[.slice a l.length cap] 29)
  have bA := Boxed.new ((w.alloc (.cells #[.int .i64 q, .int .i64 s, .slice a l.length cap, .int .i64 fr, .int .i64 b] 31)).alloc (.cells #[.bool false] 4)) 29 (.slice a l.length cap)
  simp only [World.size_alloc] at bR bA
  have hB0 : Below w.heap.size w (((w.alloc (.cells #[.int .i64 q, .int .i64 s, .slice a l.length cap, .int .i64 fr, .int .i64 b] 31)).alloc (.cells #[.bool false] 4)).alloc (.cells #[.slice a l.length cap] 29)) := (((Below.refl _ w).alloc (Nat.le_refl _) _).alloc (by simp) _).alloc (by simp; omega) _
  have hsz : (((w.alloc (.cells #[.int .i64 q, .int .i64 s, .slice a l.length cap, .int .i64 fr, .int .i64 b] 31)).alloc (.cells #[.bool false] 4)).alloc (.cells #[.slice a l.length cap] 29)).heap.size = w.heap.size + 3 := by simp
  obtain ⟨W0, hW0⟩ : ∃ W0, (((w.alloc (.cells #[.int .i64 q, .int .i64 s, .slice a l.length cap, .int .i64 fr, .int .i64 b] 31)).alloc (.cells #[.bool false] 4)).alloc (.cells #[.slice a l.length cap] 29)) = W0 := ⟨_, rfl⟩
  rw [hW0] at bR bA hB0 hsz ⊢
  clear hW0
  refine wpIn_rangeFunc_ownH rfl (by omega) (gf := 80) (lb := #[.pointer (some ⟨w.heap.size + 1 + 1, 0, none⟩)]) rfl trivial (enters_of Tryd.func80 (by kernel_rfl) rfl)
    (pairs_stops _ (by omega) (w.heap.size + 1 + 1) W0.heap.size b0 o cap a l hl W0 (by omega) (Nat.le_refl _) bA.cell (hs.below hB0 hs.lt) (fun h => by have := hs.lt h; omega)) belowK_t (belowK_b (Nat.le_refl _)) (Below.refl _ _) (fun _ => rfl)
    (fun pre W => ((pre.all folP = true ∧ Boxed W (w.heap.size + 1) 4 (.bool false)) ∧ Boxed W (w.heap.size + 1 + 1) 29 (.slice a l.length cap)) ∧ Below w.heap.size w W)
    (fun c pre W => ((c = .ret ∧ pre.all folP = false) ∧ Boxed W (w.heap.size + 1) 4 (.bool false)) ∧ Below w.heap.size w W)
    (OwnFrom.and (OwnFrom.and (OwnFrom.and (ownFrom_pure _ _) (Own.from (boxed_own _ _ _) _)) (Own.from (boxed_own _ _ _) _)) (ownFrom_below (Nat.le_refl _) (by omega)))
    (fun c => OwnFrom.and (OwnFrom.and (ownFrom_pure _ _) (Own.from (boxed_own _ _ _) _)) (ownFrom_below (Nat.le_refl _) (by omega)))
    ⟨⟨⟨rfl, bR⟩, bA⟩, hB0⟩
    (fun x a' W => ∃ Bx By, w.heap.size + 1 < Bx ∧ w.heap.size + 1 < By ∧ BoxS W Bx x.1 ∧ BoxS W By x.2 ∧ a' = { tmps := #[.agg #[.int .i64 q, .int .i64 s, .slice a l.length cap, .int .i64 fr, .int .i64 b], .pointer (some ⟨w.heap.size, 0, none⟩), .pointer (some ⟨w.heap.size + 1, 0, none⟩), .pointer (some ⟨Bx, 0, none⟩), .pointer (some ⟨By, 0, none⟩), .pointer (some ⟨w.heap.size, 2, none⟩), .slice a l.length cap, .func (.func 80) #[] #[.pointer (some ⟨w.heap.size + 1 + 1, 0, none⟩)], x.1.val, x.2.val, undef, undef, undef, undef], defers := [] })
    (fun x a' _ X Y row hs' hg hr => by obtain ⟨Bx, By, h1, h2, h3, h4, h5⟩ := hs'; exact ⟨Bx, By, h1, h2, h3.own hg (fun r e => (hr r e).2), h4.own hg (fun r e => (hr r e).2), h5⟩)
    ?assign ?body ?done ?stop
  case assign =>
    rintro lp pre x W K ⟨⟨⟨hall, bR1⟩, bA1⟩, hB1⟩ hK
    have hW := bA1.lt
    gi_wp2
    exact hK _ _ (((KeepsOthers.alloc _ _).trans (KeepsOthers.alloc _ _)).from _) (((Below.refl _ W).alloc (by omega) _).alloc (by simp; omega) _) ⟨⟨⟨hall, (bR1.alloc _).alloc _⟩, (bA1.alloc _).alloc _⟩, (hB1.alloc hB1.size _).alloc (by simp; omega) _⟩
      ⟨W.heap.size, W.heap.size + 1, by omega, by omega, (BoxS.new W x.1).alloc _, by have := BoxS.new (W.alloc (.cells #[.int .i64 x.1.x, .int .i64 x.1.y, .int .i64 x.1.lo, .int .i64 x.1.hi, .int .i64 x.1.fr, .int .i64 x.1.by_, .bool x.1.ho] 50)) x.2; simpa using this, rfl⟩
  case body =>
    rintro lp pre x a' W _ _ ⟨⟨⟨hall, bR1⟩, bA1⟩, hB1⟩ ⟨Bx, By, hBx, hBy, bX, bY, rfl⟩ hlt
    obtain ⟨c0, c1, c2, c3, c4, c5, c6⟩ := bX.seven
    obtain ⟨d0, d1, d2, d3, d4, d5, d6⟩ := bY.seven
    have hW := bA1.lt
    have HA : Hid (pre.all folP = true) := hall
    clear hall
    cases hf : folB x.2.x x.2.y x.2.lo x.2.hi x.1.x x.1.y x.1.lo x.1.hi with
    | false =>
      have HE : Hid ((pre ++ [x]).all folP = false) := by show _ = _; rw [List.all_append, HA.out]; simp [folP, hf]
      gi_wp2_with (refine ⟨trivial, ?_⟩; gi_at_call 77; refine (CallsIn.inRound lp (callsIn_wide.2 (follows_any _ _ _ _ _ _ _ _ _ _ _ _ _ _ _))).mono ?_; rintro e w2 ⟨rfl, hb2⟩; have rc := (boxed_below bR1 hb2).cell; have rf := (boxed_below bR1 hb2).frozen)
      exact ⟨((keeps_below hb2).trans (KeepsOthers.setCell _ _ _)).from _, ⟨⟨rfl, HE.out⟩, (boxed_below bR1 hb2).set _⟩, (hB1.trans (hb2.mono hB1.size)).setCell (p := ⟨w.heap.size + 1, 0, none⟩) (by simp) _⟩
    | true =>
      have HE : Hid ((pre ++ [x]).all folP = true) := by show _ = _; rw [List.all_append, HA.out]; simp [folP, hf]
      gi_wp2_with (refine ⟨trivial, ?_⟩; gi_at_call 77; refine (CallsIn.inRound lp (callsIn_wide.2 (follows_any _ _ _ _ _ _ _ _ _ _ _ _ _ _ _))).mono ?_; rintro e w2 ⟨rfl, hb2⟩)
      exact ⟨(keeps_below hb2).from _, hb2.mono (by omega), ⟨⟨HE.out, boxed_below bR1 hb2⟩, boxed_below bA1 hb2⟩, hB1.trans (hb2.mono hB1.size)⟩
  case done =>
    rintro D zs W hD rfl ⟨⟨⟨hall, bR1⟩, bA1⟩, hB1⟩ hK
    have rc := bR1.cell
    have rf := bR1.frozen
    have HE : Hid (folTo l (l.length - 1) = true) := by show _ = _; rw [folTo_pairs]; exact hall
    clear hall
    gi_wp2
    have hK' := (KeepsOthers.setCell W ⟨w.heap.size + 1, 0, none⟩ (.bool true)).same D _ hK rfl
    refine ⟨by simp, .inl ⟨_, _, rfl, run_takeDeferred hK', ?_⟩⟩
    have hc5 := cell_kept (World.cell?_setCell_same' W ⟨w.heap.size + 1, 0, none⟩ (.bool true) (by rw [rc]; rfl)) (grownBy_putObj' _ D (.deferred none)) (fun r e => by cases e; exact ⟨_, hK', rfl⟩)
    refine ⟨.bool true, ?_, by rw [HE.out], (hB1.setCell (p := ⟨w.heap.size + 1, 0, none⟩) (by simp) _).trans (belowK_b (w := w) (Nat.le_refl _) _ D _ _ (by omega) hK' rfl rfl)⟩
    simp [results, Tryd.f68, go_sem, hc5]
  case stop =>
    rintro D c pre W hD ⟨k, hk, rfl⟩ ⟨⟨⟨rfl, hbad⟩, bR1⟩, hB1⟩ hK
    have HE : Hid (folTo l (l.length - 1) = false) := by
      show _ = _
      rw [← folTo_pairs] at hbad
      cases e : folTo l (l.length - 1) with
      | false => rfl
      | true =>
        exfalso
        simp only [folTo, List.all_eq_true, List.mem_range] at e
        have : folTo l k = true := by simp only [folTo, List.all_eq_true, List.mem_range]; exact fun i hi => e i (by omega)
        rw [this] at hbad
        cases hbad
    clear hbad
    gi_wp2
    refine ⟨by simp, .inl ⟨_, _, rfl, run_takeDeferred hK, ?_⟩⟩
    have hc5 := cell_kept bR1.cell (grownBy_putObj' _ D (.deferred none)) (fun r e => by cases e; exact ⟨_, hK, rfl⟩)
    refine ⟨.bool false, ?_, by rw [HE.out], hB1.trans (belowK_b (w := w) (Nat.le_refl _) W D _ _ (by omega) hK rfl rfl)⟩
    simp [results, Tryd.f68, go_sem, hc5]
end Go.Proofs.YtlcblcoodabpeaaDoor

namespace Go.Proofs.YtlcblcoodabpeaaDoor
open Go.RowKit

theorem in_any (n a b : Int) (w : World) :
    Calls Tryd.prog 19 #[.int .i64 n, .int .i64 a, .int .i64 b] w fun e w' => e = .returned (.bool (inB n a b)) ∧ w' = w := by
  by_cases h1 : a ≤ n
  · by_cases h2 : n ≤ b
    · go_enter Tryd.func19, Tryd.ntmps19
      go_wp2
      go_ret
      exact ⟨by simp [inB, h1, h2], rfl⟩
    · have h2' : decide (n ≤ b) = false := by simpa using h2
      go_enter Tryd.func19, Tryd.ntmps19
      go_wp2
      go_ret
      exact ⟨by simp [inB, h2'], rfl⟩
  · have h1' : decide (a ≤ n) = false := by simpa using h1
    go_enter Tryd.func19, Tryd.ntmps19
    go_wp2
    go_ret
    exact ⟨by simp [inB, h1'], rfl⟩

theorem stepOkS_any (x y lo hi fr b : Int) (ho : Bool) (w : World) :
    Calls Tryd.prog 41 #[.agg #[.int .i64 x, .int .i64 y, .int .i64 lo, .int .i64 hi, .int .i64 fr, .int .i64 b, .bool ho]] w fun e w' => e = .returned (.bool (stepB x y lo hi fr b)) ∧ Below w.heap.size w w' := by
  have hb := (Below.refl w.heap.size w).alloc (Nat.le_refl _) (.cells #[.int .i64 x, .int .i64 y, .int .i64 lo, .int .i64 hi, .int .i64 fr, .int .i64 b, .bool ho] 50)
  have er : stepB x y lo hi fr b = (inB x 0 15 && inB y 0 15 && inB lo 0 hi && decide (hi ≤ 6) && inB fr 0 b && decide (b ≤ 10000)) := by
    rw [Bool.eq_iff_iff]; simp [stepB, inB]; omega
  have ER : Hid (stepB x y lo hi fr b = (inB x 0 15 && inB y 0 15 && inB lo 0 hi && decide (hi ≤ 6) && inB fr 0 b && decide (b ≤ 10000))) := er
  clear er
  rcases Bool.eq_false_or_eq_true (inB x 0 15) with h1 | h1
  rcases Bool.eq_false_or_eq_true (inB y 0 15) with h2 | h2
  rcases Bool.eq_false_or_eq_true (inB lo 0 hi) with h3 | h3
  rcases Bool.eq_false_or_eq_true (decide (hi ≤ 6)) with h4 | h4
  rcases Bool.eq_false_or_eq_true (inB fr 0 b) with h5 | h5
  all_goals
    go_enter Tryd.func41, Tryd.ntmps41
    go_wp2_with (go_at_call 19; refine (in_any _ _ _ _).mono ?_; rintro e w' ⟨rfl, rfl⟩)
    go_ret
    exact ⟨by rw [ER.out]; simp [*], hb⟩

theorem folN (x y lo hi x' y' lo' hi' : Int) : folB x y lo hi x' y' lo' hi' = (((x != x') || (y != y')) && inB (wrap64 (x - x')) (-1) 1 && inB (wrap64 (y - y')) (-1) 1 && levB lo hi lo' hi') := by
  unfold folB bne; cases (x == x') <;> cases (y == y') <;> rfl

set_option maxHeartbeats 1000000 in
theorem nextS_any (x y lo hi fr b x' y' lo' hi' fr' b' : Int) (ho ho' : Bool) (w : World) :
    Calls Tryd.prog 42 #[.agg #[.int .i64 x, .int .i64 y, .int .i64 lo, .int .i64 hi, .int .i64 fr, .int .i64 b, .bool ho], .agg #[.int .i64 x', .int .i64 y', .int .i64 lo', .int .i64 hi', .int .i64 fr', .int .i64 b', .bool ho']] w
      fun e w' => e = .returned (.bool (folB x y lo hi x' y' lo' hi')) ∧ Below w.heap.size w w' := by
  have hb : ∀ c1 c2 : Array Value, Below w.heap.size w ((w.alloc (.cells c1 50)).alloc (.cells c2 50)) := fun c1 c2 => ((Below.refl w.heap.size w).alloc (Nat.le_refl _) _).alloc (by simp) _
  rcases Bool.eq_false_or_eq_true (inB (wrap64 (x - x')) (-1) 1) with h3 | h3
  rcases Bool.eq_false_or_eq_true (inB (wrap64 (y - y')) (-1) 1) with h4 | h4
  rcases (show ((x != x') = false ∧ (y != y') = false) ∨ ((x != x') = false ∧ (y != y') = true) ∨ (x != x') = true by cases (x != x') <;> cases (y != y') <;> simp) with ⟨h1, h2⟩ | ⟨h1, h2⟩ | h1
  rotate_left
  rcases Bool.eq_false_or_eq_true (decide (lo ≤ hi')) with h5 | h5
  rotate_left 2
  rcases Bool.eq_false_or_eq_true (decide (lo ≤ hi')) with h5 | h5
  all_goals
    go_enter Tryd.func42, Tryd.ntmps42
    go_wp2_with (go_at_call 19; refine (in_any _ _ _ _).mono ?_; rintro e w' ⟨rfl, rfl⟩)
    go_ret
    exact ⟨by rw [folN]; simp [levB, *], hb _ _⟩

theorem in_val (n a b : Int) (v : Bool) (w : World) (hv : inB n a b = v) :
    Calls Tryd.prog 19 #[.int .i64 n, .int .i64 a, .int .i64 b] w fun e w' => e = .returned (.bool v) ∧ w' = w := by
  rw [← hv]; exact in_any n a b w
end Go.Proofs.YtlcblcoodabpeaaDoor

namespace Go.Proofs.YtlcblcoodabpeaaDoor
open Go.RowKit

theorem kindS_any (q s : Int) (w : World) :
    Calls Tryd.prog 40 #[.agg #[.int .i64 q, .int .i64 s]] w fun e w' => e = .returned (.bool (kindB q s)) ∧ Below w.heap.size w w' := by
  have hb := (Below.refl w.heap.size w).alloc (Nat.le_refl _) (.cells #[.int .i64 q, .int .i64 s] 28)
  have ER : Hid (kindB q s = (inB q 1 s && decide (s ≤ 50))) := by
    show _ = _
    rw [Bool.eq_iff_iff]; simp [kindB, inB]; omega
  cases hk : inB q 1 s
  all_goals
    go_enter Tryd.func40, Tryd.ntmps40
    go_wp2_with (go_at_call 19; refine (in_any _ _ _ _).mono ?_; rintro e w' ⟨rfl, rfl⟩)
    go_ret
    exact ⟨by rw [ER.out, hk]; simp, hb⟩

set_option maxHeartbeats 2000000 in
theorem pathS_no (q s fr b : Int) (a : Option Addr) (_b0 _o cap : Nat) (l : List Stp) (w : World) (_hl : l.length ≤ 1048576)
    (hno : (kindB q s && inB l.length 1 40 && inB fr 0 b && decide (b ≤ 10000)) = false) :
    Calls Tryd.prog 18 #[.agg #[.int .i64 q, .int .i64 s, .slice a l.length cap, .int .i64 fr, .int .i64 b]] w fun e w' => e = .returned (.bool false) ∧ Below w.heap.size w w' := by
  rcases (show kindB q s = false ∨ (kindB q s = true ∧ inB l.length 1 40 = false) ∨ (kindB q s = true ∧ inB l.length 1 40 = true ∧ inB fr 0 b = false) ∨ (kindB q s = true ∧ inB l.length 1 40 = true ∧ inB fr 0 b = true ∧ 10000 < b) by
    by_cases h : b ≤ 10000
    · revert hno; cases kindB q s <;> cases inB l.length 1 40 <;> cases inB fr 0 b <;> simp [h]
    · have h' : 10000 < b := by omega
      cases kindB q s <;> cases inB l.length 1 40 <;> cases inB fr 0 b <;> simp [h']) with h1 | ⟨h1, h2⟩ | ⟨h1, h2, h3⟩ | ⟨h1, h2, h3, h4⟩
  all_goals
    clear hno
    go_enter Tryd.func18, Tryd.ntmps18
    go_wp2_with fail
    refine (kindS_any _ _ _).mono ?_
    rintro e w1 ⟨rfl, hb1⟩
    have hb01 : Below w.heap.size w w1 := ((Below.refl w.heap.size w).alloc (Nat.le_refl _) _).trans (hb1.mono (by simp))
    have c2 : w1.cell? ⟨w.heap.size, 2, none⟩ = some (.slice a l.length cap) := by rw [hb1.cell (p := ⟨w.heap.size, 2, none⟩) (by simp)]; simp [go_sem]
    have c3 : w1.cell? ⟨w.heap.size, 3, none⟩ = some (.int .i64 fr) := by rw [hb1.cell (p := ⟨w.heap.size, 3, none⟩) (by simp)]; simp [go_sem]
    have c4 : w1.cell? ⟨w.heap.size, 4, none⟩ = some (.int .i64 b) := by rw [hb1.cell (p := ⟨w.heap.size, 4, none⟩) (by simp)]; simp [go_sem]
    clear hb1
    go_wp2_with (go_at_call 19; refine (in_any _ _ _ _).mono ?_; rintro e w' ⟨rfl, rfl⟩)
    go_ret
    exact ⟨rfl, hb01⟩

theorem stepOkS_val (x y lo hi fr b : Int) (ho v : Bool) (w : World) (hv : stepB x y lo hi fr b = v) :
    Calls Tryd.prog 41 #[.agg #[.int .i64 x, .int .i64 y, .int .i64 lo, .int .i64 hi, .int .i64 fr, .int .i64 b, .bool ho]] w fun e w' => e = .returned (.bool v) ∧ Below w.heap.size w w' := by
  rw [← hv]; exact stepOkS_any x y lo hi fr b ho w

theorem nextS_val (x y lo hi fr b x' y' lo' hi' fr' b' : Int) (ho ho' v : Bool) (w : World) (hv : folB x y lo hi x' y' lo' hi' = v) :
    Calls Tryd.prog 42 #[.agg #[.int .i64 x, .int .i64 y, .int .i64 lo, .int .i64 hi, .int .i64 fr, .int .i64 b, .bool ho], .agg #[.int .i64 x', .int .i64 y', .int .i64 lo', .int .i64 hi', .int .i64 fr', .int .i64 b', .bool ho']] w
      fun e w' => e = .returned (.bool v) ∧ Below w.heap.size w w' := by
  rw [← hv]; exact nextS_any x y lo hi fr b x' y' lo' hi' fr' b' ho ho' w

set_option maxHeartbeats 4000000 in
theorem pathS_yes (q s fr b : Int) (a : Option Addr) (b0 o cap : Nat) (l : List Stp) (w : World) (hs : StepsAt w a b0 o l)
    (h1 : kindB q s = true) (h2 : inB l.length 1 40 = true) (h3 : inB fr 0 b = true) (h4 : b ≤ 10000) :
    Calls Tryd.prog 18 #[.agg #[.int .i64 q, .int .i64 s, .slice a l.length cap, .int .i64 fr, .int .i64 b]] w fun e w' => e = .returned (.bool (goodTo l l.length)) ∧ Below w.heap.size w w' := by
  have hn := (inB_iff _ _ _).1 h2
  go_enter Tryd.func18, Tryd.ntmps18
  go_wp2_with fail
  refine (kindS_any _ _ _).mono ?_
  rintro e w1 ⟨rfl, hb1⟩
  have hb01 : Below w.heap.size w w1 := ((Below.refl w.heap.size w).alloc (Nat.le_refl _) _).trans (hb1.mono (by simp))
  have hz : w.heap.size < w1.heap.size := by have := hb1.size; simp at this; omega
  have c2 : w1.cell? ⟨w.heap.size, 2, none⟩ = some (.slice a l.length cap) := by rw [hb1.cell (p := ⟨w.heap.size, 2, none⟩) (by simp)]; simp [go_sem]
  have c3 : w1.cell? ⟨w.heap.size, 3, none⟩ = some (.int .i64 fr) := by rw [hb1.cell (p := ⟨w.heap.size, 3, none⟩) (by simp)]; simp [go_sem]
  have c4 : w1.cell? ⟨w.heap.size, 4, none⟩ = some (.int .i64 b) := by rw [hb1.cell (p := ⟨w.heap.size, 4, none⟩) (by simp)]; simp [go_sem]
  clear hb1
  go_wp2_with (go_at_call 19; refine (in_any _ _ _ _).mono ?_; rintro e w' ⟨rfl, rfl⟩)
  clear c3 c4
  go_loopw [3] (fun v wr => ∃ k : Nat, k ≤ l.length ∧ v = .int .i64 k ∧ Below w.heap.size w wr ∧ w.heap.size < wr.heap.size ∧ wr.cell? ⟨w.heap.size, 2, none⟩ = some (.slice a l.length cap) ∧ goodTo l k = true) (fun v _ => l.length - (intOf v).toNat)
  case atStart => exact ⟨0, Nat.zero_le _, rfl, hb01, hz, c2, goodTo_zero l⟩
  case round =>
    clear hb01 hz c2 h1 h2 h3
    obtain ⟨k, hk, rfl, hb, hz, c2, hgood⟩ := hrel
    have HG : Hid (goodTo l k = true) := hgood
    clear hgood
    by_cases hlt : k < l.length
    · obtain ⟨t, htk⟩ : ∃ t, l[k]? = some t := ⟨l[k], List.getElem?_eq_getElem hlt⟩
      have hne : l ≠ [] := by intro e; subst e; simp at hlt
      obtain rfl := hs.here hne
      have hbw := hs.lt hne
      have hbx : b0 < wr.heap.size := Nat.lt_of_lt_of_le hbw hb.size
      obtain ⟨d0, d1, d2, d3, d4, d5, d6⟩ := (hs.below hb (fun _ => hbw)).seven htk
      have k0 : (0 : Int) ≤ (k : Int) := by omega
      have k1 : (k : Int) < (l.length : Int) := by omega
      have HT : Hid (l.getD k .zero = t) := by show _ = _; simp [List.getD, htk]
      have HS := (hs.below hb (fun _ => hbw))
      clear htk
      cases hok : stepB t.x t.y t.lo t.hi t.fr t.by_ with
      | false =>
        go_wp2
        have qn := Cls.any wr
        have q0 := Cls.cell hbx
        have q1 := Cls.cell hz
        refine wp_region_cls (by kernel_rfl) (by kernel_rfl) ?_
        repeat (go_big_quiet_step ((go_at_call 41; exact Calls.cls_of (stepOkS_val _ _ _ _ _ _ _ _ _ hok))))
        refine wpQuiet_nil ?_
        rintro _ ⟨u, rfl⟩
        go_wp2
        go_ret
        exact ⟨by rw [goodTo_not hlt (goodS_bad HT.out hok)]; rfl, hb.trans (u.same.mono hb.size)⟩
      | true =>
        have qn := Cls.any wr
        have q0 := Cls.cell hbx
        have q1 := Cls.cell hz
        rcases Nat.eq_zero_or_pos k with hk0 | hk0
        · have G1 : Hid (goodTo l (k + 1) = true) := by
            show _ = _
            subst hk0; rw [goodTo_succ, HG.out, goodS_first HT.out hok]; rfl
          subst hk0
          clear hk k0
          simp only [Nat.zero_mul, Nat.add_zero] at d0 d1 d2 d3 d4 d5 d6
          go_wp2
          refine wp_region_cls (by kernel_rfl) (by kernel_rfl) ?_
          repeat (go_big_quiet_step ((go_at_call 41; exact Calls.cls_of (stepOkS_val _ _ _ _ _ _ _ _ _ hok))))
          refine wpQuiet_nil ?_
          rintro _ ⟨u, rfl⟩
          go_wp2
          go_roundw
          case rel => exact ⟨0 + 1, by omega, by go_num, hb.trans (u.same.mono hb.size), Nat.lt_of_lt_of_le hz u.same.size, by rw [q1 u]; exact c2, G1.out⟩
          case measure => simp [intOf]; omega
        · obtain ⟨p, hpk⟩ : ∃ p, l[k - 1]? = some p := ⟨l[k - 1], List.getElem?_eq_getElem (by omega)⟩
          have HP : Hid (l.getD (k - 1) .zero = p) := by show _ = _; simp [List.getD, hpk]
          obtain ⟨m, rfl⟩ : ∃ m, k = m + 1 := ⟨k - 1, by omega⟩
          simp only [Nat.add_sub_cancel] at hpk HP
          obtain ⟨g0, g1, g2, g3, g4, g5, g6⟩ := HS.seven hpk
          clear hpk HS hk0
          cases hfo : folB p.x p.y p.lo p.hi t.x t.y t.lo t.hi with
          | false =>
            have G1 : Hid (goodTo l l.length = false) := by
              show _ = _
              exact goodTo_not hlt (goodS_next HT.out HP.out hok hfo)
            go_wp2
            refine wp_region_cls (by kernel_rfl) (by kernel_rfl) ?_
            repeat (go_big_quiet_step (first | (go_at_call 41; exact Calls.cls_of (stepOkS_val _ _ _ _ _ _ _ _ _ hok)) | (go_at_call 42; exact Calls.cls_of (nextS_val _ _ _ _ _ _ _ _ _ _ _ _ _ _ _ _ hfo))))
            refine wpQuiet_nil ?_
            rintro _ ⟨u, rfl⟩
            go_wp2
            go_ret
            exact ⟨by rw [G1.out]; rfl, hb.trans (u.same.mono hb.size)⟩
          | true =>
            have G1 : Hid (goodTo l (m + 1 + 1) = true) := by
              show _ = _
              rw [goodTo_succ, HG.out, goodS_next HT.out HP.out hok hfo]; rfl
            go_wp2
            refine wp_region_cls (by kernel_rfl) (by kernel_rfl) ?_
            repeat (go_big_quiet_step (first | (go_at_call 41; exact Calls.cls_of (stepOkS_val _ _ _ _ _ _ _ _ _ hok)) | (go_at_call 42; exact Calls.cls_of (nextS_val _ _ _ _ _ _ _ _ _ _ _ _ _ _ _ _ hfo))))
            refine wpQuiet_nil ?_
            rintro _ ⟨u, rfl⟩
            go_wp2
            go_roundw
            case rel => exact ⟨m + 1 + 1, by omega, by go_num, hb.trans (u.same.mono hb.size), Nat.lt_of_lt_of_le hz u.same.size, by rw [q1 u]; exact c2, G1.out⟩
            case measure => simp [intOf]; omega
    · obtain rfl : k = l.length := by omega
      go_wp2
      go_ret
      exact ⟨by rw [HG.out]; rfl, hb⟩

theorem pathS_any (q s fr b : Int) (a : Option Addr) (b0 o cap : Nat) (l : List Stp) (w : World) (hl : l.length ≤ 1048576) (hs : StepsAt w a b0 o l) :
    Calls Tryd.prog 18 #[.agg #[.int .i64 q, .int .i64 s, .slice a l.length cap, .int .i64 fr, .int .i64 b]] w fun e w' => e = .returned (.bool (pathB q s fr b l)) ∧ Below w.heap.size w w' := by
  cases h : (kindB q s && inB l.length 1 40 && inB fr 0 b && decide (b ≤ 10000)) with
  | false =>
    have e1 : pathB q s fr b l = false := by unfold pathB; rw [h]; rfl
    rw [e1]
    exact pathS_no q s fr b a b0 o cap l w hl h
  | true =>
    have e1 : pathB q s fr b l = goodTo l l.length := by unfold pathB; rw [h]; rfl
    rw [e1]
    simp only [Bool.and_eq_true, decide_eq_true_eq] at h
    exact pathS_yes q s fr b a b0 o cap l w hs h.1.1.1 h.1.1.2 h.1.2 h.2
end Go.Proofs.YtlcblcoodabpeaaDoor

namespace Go.Proofs.YtlcblcoodabpeaaDoor
open Go.RowKit

/-- The numbers zs lie in block b from offset o on. -/
structure IntsAt (w : World) (a : Option Addr) (b o : Nat) (zs : List Int) : Prop where
  here : zs ≠ [] → a = some ⟨b, o, none⟩
  lt : zs ≠ [] → b < w.heap.size
  cell : ∀ (i : Nat) (z : Int), zs[i]? = some z → w.cell? ⟨b, o + i, none⟩ = some (.int .i64 z)

theorem IntsAt.below {w w' : World} {a : Option Addr} {b o B : Nat} {zs : List Int} (h : IntsAt w a b o zs) (hb : Below B w w') (hB : zs ≠ [] → b < B) : IntsAt w' a b o zs where
  here := h.here
  lt hl := Nat.lt_of_lt_of_le (h.lt hl) hb.size
  cell i z hi := by
    have hne : zs ≠ [] := by intro e; subst e; simp at hi
    rw [hb.cell (p := ⟨b, o + i, none⟩) (hB hne)]
    exact h.cell i z hi
theorem IntsAt.alloc {w : World} {a : Option Addr} {b o : Nat} {zs : List Int} (h : IntsAt w a b o zs) (ob : Obj) : IntsAt (w.alloc ob) a b o zs :=
  h.below ((Below.refl w.heap.size w).alloc (Nat.le_refl _) ob) h.lt

theorem int_info : (Tryd.prog.info? 3).map (fun i => (i.zero, i.size, i.bytes)) = some (some (.int .i64 0), 1, 8) := by kernel_rfl
end Go.Proofs.YtlcblcoodabpeaaDoor

namespace Go.Proofs.YtlcblcoodabpeaaDoor
open Go.RowKit

theorem low_any (q s fr b : Int) (a : Option Addr) (b0 o cap : Nat) (l : List Stp) (k : Nat) (w : World) (hl : l.length ≤ 1048576) (hs : StepsAt w a b0 o l) :
    Calls Tryd.prog 52 #[.agg #[.int .i64 q, .int .i64 s, .slice a l.length cap, .int .i64 fr, .int .i64 b], .int .i64 (k : Int)] w fun e w' => e = .returned (.int .i64 (lowB fr l k)) ∧ Below w.heap.size w w' := by
  have hb := (Below.refl w.heap.size w).alloc (Nat.le_refl _) (.cells #[.int .i64 q, .int .i64 s, .slice a l.length cap, .int .i64 fr, .int .i64 b] 31)
  by_cases hlt : k < l.length
  · obtain ⟨t, htk⟩ : ∃ t, l[k]? = some t := ⟨l[k], List.getElem?_eq_getElem hlt⟩
    have hne : l ≠ [] := by intro e; subst e; simp at hlt
    obtain rfl := hs.here hne
    have hbw := hs.lt hne
    obtain ⟨_, _, _, _, d4, _, _⟩ := (hs.alloc (.cells #[.int .i64 q, .int .i64 s, .slice (some ⟨b0, o, none⟩) l.length cap, .int .i64 fr, .int .i64 b] 31)).seven htk
    have HE : Hid (lowB fr l k = t.fr) := by show _ = _; unfold lowB; rw [if_pos hlt]; simp [List.getD, htk]
    clear htk
    go_enter Tryd.func52, Tryd.ntmps52
    go_wp2
    go_ret
    exact ⟨by rw [HE.out]; rfl, hb⟩
  · have HE : Hid (lowB fr l k = fr) := by show _ = _; unfold lowB; rw [if_neg hlt]
    go_enter Tryd.func52, Tryd.ntmps52
    go_wp2
    go_ret
    exact ⟨by rw [HE.out]; rfl, hb⟩

theorem high_any (q s fr b : Int) (a : Option Addr) (b0 o cap : Nat) (l : List Stp) (k : Nat) (w : World) (hl : l.length ≤ 1048576) (hs : StepsAt w a b0 o l) :
    Calls Tryd.prog 53 #[.agg #[.int .i64 q, .int .i64 s, .slice a l.length cap, .int .i64 fr, .int .i64 b], .int .i64 (k : Int)] w fun e w' => e = .returned (.int .i64 (highB b l k)) ∧ Below w.heap.size w w' := by
  have hb := (Below.refl w.heap.size w).alloc (Nat.le_refl _) (.cells #[.int .i64 q, .int .i64 s, .slice a l.length cap, .int .i64 fr, .int .i64 b] 31)
  by_cases hlt : k < l.length
  · obtain ⟨t, htk⟩ : ∃ t, l[k]? = some t := ⟨l[k], List.getElem?_eq_getElem hlt⟩
    have hne : l ≠ [] := by intro e; subst e; simp at hlt
    obtain rfl := hs.here hne
    have hbw := hs.lt hne
    obtain ⟨_, _, _, _, _, d5, _⟩ := (hs.alloc (.cells #[.int .i64 q, .int .i64 s, .slice (some ⟨b0, o, none⟩) l.length cap, .int .i64 fr, .int .i64 b] 31)).seven htk
    have HE : Hid (highB b l k = t.by_) := by show _ = _; unfold highB; rw [if_pos hlt]; simp [List.getD, htk]
    clear htk
    go_enter Tryd.func53, Tryd.ntmps53
    go_wp2
    go_ret
    exact ⟨by rw [HE.out]; rfl, hb⟩
  · have HE : Hid (highB b l k = b) := by show _ = _; unfold highB; rw [if_neg hlt]
    go_enter Tryd.func53, Tryd.ntmps53
    go_wp2
    go_ret
    exact ⟨by rw [HE.out]; rfl, hb⟩

theorem most_any (q s fr b : Int) (a : Option Addr) (b0 o cap : Nat) (l : List Stp) (k : Nat) (w : World) (hl : l.length ≤ 1048576) (hs : StepsAt w a b0 o l) (hlt : k < l.length) :
    Calls Tryd.prog 54 #[.agg #[.int .i64 q, .int .i64 s, .slice a l.length cap, .int .i64 fr, .int .i64 b], .int .i64 (k : Int)] w fun e w' => e = .returned (.int .i64 (mostB s l k)) ∧ Below w.heap.size w w' := by
  have hb := (Below.refl w.heap.size w).alloc (Nat.le_refl _) (.cells #[.int .i64 q, .int .i64 s, .slice a l.length cap, .int .i64 fr, .int .i64 b] 31)
  obtain ⟨t, htk⟩ : ∃ t, l[k]? = some t := ⟨l[k], List.getElem?_eq_getElem hlt⟩
  have hne : l ≠ [] := by intro e; subst e; simp at hlt
  obtain rfl := hs.here hne
  have hbw := hs.lt hne
  obtain ⟨_, _, _, _, _, _, d6⟩ := (hs.alloc (.cells #[.int .i64 q, .int .i64 s, .slice (some ⟨b0, o, none⟩) l.length cap, .int .i64 fr, .int .i64 b] 31)).seven htk
  have HE : Hid (mostB s l k = if t.ho then 10000 else s) := by show _ = _; unfold mostB; simp [List.getD, htk]
  clear htk
  cases hho : t.ho with
  | true =>
    have HF : Hid (mostB s l k = 10000) := by show _ = _; rw [HE.out, hho]; rfl
    rw [hho] at d6
    go_enter Tryd.func54, Tryd.ntmps54
    go_wp2
    go_ret
    exact ⟨by rw [HF.out]; rfl, hb⟩
  | false =>
    have HF : Hid (mostB s l k = s) := by show _ = _; rw [HE.out, hho]; rfl
    rw [hho] at d6
    go_enter Tryd.func54, Tryd.ntmps54
    go_wp2
    go_ret
    exact ⟨by rw [HF.out]; rfl, hb⟩
end Go.Proofs.YtlcblcoodabpeaaDoor

namespace Go.Proofs.YtlcblcoodabpeaaDoor
open Go.RowKit

section
variable {P : Program} {ops : Array Oper} {md : Region.Mode} {C : World → Prop} {last : Nat} {Q : Exit → Act → World → Prop}

/-- Whatever order is picked from here on: all operations but the last one are quiet; the last one comes up when nothing else is left. -/
def anyL (P : Program) (md : Region.Mode) (ops : Array Oper) (C : World → Prop) (last : Nat) (Q : Exit → Act → World → Prop) : Nat → Array Bool → Act → Prop
  | 0, _, _ => False
  | fuel + 1, listed, a => Region.ready md ops listed ≠ [] ∧ ∀ i ∈ Region.ready md ops listed,
      (i = last → Region.ready md ops (listed.setIfInBounds last true) = [] ∧ ∀ w, C w → wpOp P ops Q last (fun a' w' => Q .normal a' w') a w) ∧
      (i ≠ last → qOp P ops C i (anyL P md ops C last Q fuel (listed.setIfInBounds i true)) a)

theorem any_done {listed : Array Bool} (h : Region.ready md ops listed = []) {a : Act} {w : World} (hq : Q .normal a w) : ∀ fuel, wpAny P md ops Q fuel listed a w
  | 0 => ⟨h, hq⟩
  | _ + 1 => ⟨fun _ => hq, fun i hi => by rw [h] at hi; cases hi⟩

theorem any_of_L : ∀ (fuel : Nat) (listed : Array Bool) (a : Act) (w : World), C w → anyL P md ops C last Q fuel listed a → wpAny P md ops Q fuel listed a w
  | 0, _, _, _, _, h => h.elim
  | fuel + 1, listed, a, w, hw, h => ⟨fun e => absurd e h.1, fun i hi => by
      by_cases e : i = last
      · subst e
        obtain ⟨h1, h2⟩ := (h.2 i hi).1 rfl
        exact wpOp_mono (fun a' w' hq => any_done h1 hq fuel) (h2 w hw)
      · exact wpOp_of_qOp hw (fun a' w' hw' hk => any_of_L fuel _ a' w' hw' hk) ((h.2 i hi).2 e)⟩

/-- An operation that is quiet, may come up now, and is apart from what does not wait for it, may be taken first. -/
theorem anyL_take {i x : Nat} {oi : Oper} {v : Value} (hi : ops[i]? = some oi) (hsel : ∀ (j : Nat) (o : Oper) cs b, ops[j]? = some o → o.op ≠ .select cs b)
    (hx : x = i ∨ ∃ ox, ops[x]? = some ox ∧ ∃ e ∈ ox.after, Region.binds md e = true ∧ e.on = i)
    (hwait : ∀ oL, ops[last]? = some oL → ∃ e ∈ oL.after, Region.binds md e = true ∧ e.on = x) :
    ∀ (fuel : Nat) (listed : Array Bool) (a : Act), listed.getD x true = false →
      (∀ j oj, ops[j]? = some oj → j ≠ i → listed.getD j true = false → (∀ e ∈ oj.after, Region.binds md e = true → e.on ≠ i) → oi.apart ops oj = true) →
      i ∈ Region.ready md ops listed → YieldsIn P ops C oi v a →
      anyL P md ops C last Q fuel (listed.setIfInBounds i true) (a.put oi.dst v) → anyL P md ops C last Q (fuel + 1) listed a := by
  intro fuel
  induction fuel with
  | zero => intro _ _ _ _ _ _ H; exact H.elim
  | succ fuel ih =>
    intro listed a hxu hfree hr hy H
    have hun : listed.getD i true = false := (mem_ready.1 hr).1
    have clash : listed.getD i false = true → False := fun h1 => by
      rcases Nat.lt_or_ge i listed.size with h' | h'
      · simp [h'] at hun h1; rw [hun] at h1; cases h1
      · simp [Array.getElem?_eq_none h'] at h1
    have clashx : listed.getD x false = true → False := fun h1 => by
      rcases Nat.lt_or_ge x listed.size with h' | h'
      · simp [h'] at hxu h1; rw [hxu] at h1; cases h1
      · simp [Array.getElem?_eq_none h'] at h1
    refine ⟨fun e => (by rw [e] at hr; cases hr), fun j hj => ?_⟩
    obtain ⟨hjun, oj, hoj, hall⟩ := mem_ready.1 hj
    have hjl : j ≠ last := fun e => by
      subst e
      obtain ⟨y, hy', hb, ho⟩ := hwait oj hoj
      exact clashx (by have := hall y hy' hb; rwa [ho] at this)
    refine ⟨fun e => absurd e hjl, fun _ => ?_⟩
    by_cases hji : j = i
    · subst hji
      exact hy.qOp hi H
    · have hnot : ∀ e ∈ oj.after, Region.binds md e = true → e.on ≠ i := fun e he hb heq => clash (by have := hall e he hb; rwa [heq] at this)
      have h1 := (H.2 j (ready_mono hj hji)).2 hjl
      have h2 := qOp_put hoj (hfree j oj hoj hji hjun hnot) (fun cs b => hsel i oi cs b hi) (fun cs b => hsel j oj cs b hoj) hy h1
      have hjx : j ≠ x := fun e => by
        rcases hx with rfl | ⟨ox, hox, y, hy', hb, ho⟩
        · exact hji e
        · subst e
          rw [hoj] at hox
          cases hox
          exact hnot y hy' hb ho
      refine qOp_mono (fun a' h3 => ih (listed.setIfInBounds j true) a' (by rw [getD_set_ne true hjx]; exact hxu) (fun k ok hk hki hku hkn => hfree k ok hk hki ?_ hkn) (ready_mono hr (Ne.symm hji)) h3.1 ?_) h2
      · by_cases hjk : j = k
        · subst hjk; exact hjun
        · rw [getD_set_ne true hjk] at hku; exact hku
      · rw [Array.setIfInBounds_comm _ _ hji]
        exact h3.2

/-- While the k-th operation is not done, the last one cannot come up: it waits for it, or for one that is not done and waits for it. -/
def waitsAt (md : Region.Mode) (ops : Array Oper) (last k : Nat) (listed : Array Bool) : Option Nat :=
  (List.range last).find? fun x => !(listed.getD x true) && (x == k || (match ops[x]? with | none => false | some ox => ox.after.toList.any fun e => Region.binds md e && e.on == k)) &&
    (match ops[last]? with | none => true | some oL => oL.after.toList.any fun e => Region.binds md e && e.on == x)
/-- The Bool over a region: its lexical order may be walked, and the last operation comes up when nothing else is left. -/
def lexL (md : Region.Mode) (ops : Array Oper) (last : Nat) : Nat → Nat → Array Bool → Bool
  | 0, k, listed => Region.ready md ops listed == [k] && (Region.ready md ops (listed.setIfInBounds k true)).isEmpty
  | fuel + 1, k, listed => (Region.ready md ops listed).contains k && Region.free md ops listed k && (waitsAt md ops last k listed).isSome && lexL md ops last fuel (k + 1) (listed.setIfInBounds k true)

theorem anyL_lex (hs : Region.noSelect ops = true) : ∀ (l : List Oper) (k : Nat) (listed : Array Bool) (a : Act), (∀ j, j < l.length → l[j]? = ops[k + j]?) → last = k + l.length →
    lexL md ops last l.length k listed = true → wpQuiet P ops C (fun a' => ∀ w, C w → wpOp P ops Q last (fun a'' w'' => Q .normal a'' w'') a' w) l a → anyL P md ops C last Q (l.length + 1) listed a
  | [], k, listed, a, _, hk, hB, h => by
    simp only [List.length_nil, Nat.add_zero] at hk
    subst hk
    simp only [List.length_nil, lexL, Bool.and_eq_true, beq_iff_eq, List.isEmpty_iff] at hB
    refine ⟨by rw [hB.1]; simp, fun i hi => ⟨fun e => ⟨hB.2, h⟩, fun e => ?_⟩⟩
    rw [hB.1] at hi
    simp at hi
    exact absurd hi e
  | o :: l, k, listed, a, hl, hk, hB, h => by
    have h0 : ops[k]? = some o := by simpa using (hl 0 (by simp)).symm
    simp only [List.length_cons, lexL, Bool.and_eq_true] at hB
    obtain ⟨⟨⟨hr, hf⟩, hwt⟩, hB'⟩ := hB
    obtain ⟨x, hxw⟩ := Option.isSome_iff_exists.1 hwt
    have hxp := List.find?_some hxw
    simp only [Bool.and_eq_true, Bool.not_eq_true'] at hxp
    obtain ⟨⟨hx1, hx2⟩, hx3⟩ := hxp
    have hst : qOp P ops C k (wpQuiet P ops C (fun a' => ∀ w, C w → wpOp P ops Q last (fun a'' w'' => Q .normal a'' w'') a' w) l) a := by unfold qOp; simp only [h0]; exact h
    obtain ⟨v, hy, hK⟩ := yieldsIn_of_qOp h0 hst
    have hkl : k < last := by rw [hk]; simp
    refine anyL_take (x := x) h0 (Region.noSelect_spec hs) ?_ (fun oL hoL => ?_) (l.length + 1) listed a hx1 (Region.free_spec h0 hf) (by simpa using hr) hy
      (anyL_lex hs l (k + 1) _ _ (fun j hj => by have := hl (j + 1) (by simp; omega); simpa [Nat.add_assoc, Nat.add_comm 1 j] using this) (by rw [hk]; simp; omega) hB' hK)
    · simp only [Bool.or_eq_true, beq_iff_eq] at hx2
      rcases hx2 with h1 | h1
      · exact Or.inl h1
      · right
        cases hox : ops[x]? with
        | none => rw [hox] at h1; cases h1
        | some ox =>
          rw [hox] at h1
          simp only [List.any_eq_true, Bool.and_eq_true, beq_iff_eq] at h1
          obtain ⟨e, he, h2, h3⟩ := h1
          exact ⟨ox, rfl, e, by simpa using he, h2, h3⟩
    · rw [hoL] at hx3
      simp only [List.any_eq_true, Bool.and_eq_true, beq_iff_eq] at hx3
      obtain ⟨e, he, h2, h3⟩ := hx3
      exact ⟨e, by simpa using he, h2, h3⟩

/-- All but the last. -/
def initL : List Oper → List Oper
  | [] => []
  | [_] => []
  | o :: o' :: l => o :: initL (o' :: l)
/-- The last alone. -/
def endL : List Oper → List Oper
  | [] => []
  | [o] => [o]
  | _ :: o' :: l => endL (o' :: l)
theorem init_end : ∀ l : List Oper, l = initL l ++ endL l
  | [] => rfl
  | [_] => rfl
  | o :: o' :: l => by
    have := init_end (o' :: l)
    simp only [initL, endL, List.cons_append]
    rw [← this]
theorem end_one : ∀ l : List Oper, l ≠ [] → ∃ o, endL l = [o]
  | [], h => absurd rfl h
  | [o], _ => ⟨o, rfl⟩
  | _ :: o' :: l, _ => end_one (o' :: l) (by simp)

theorem wp_region_last {id : Nat} {a : Act} {w : World} {l : List Oper} (hm : P.follows .mixedOrders = true) (hne : l ≠ []) (hs : Region.noSelect l.toArray = true)
    (hB : lexL .any l.toArray (l.length - 1) (l.length - 1) 0 (Array.replicate l.length false) = true)
    (h : wpQuiet P l.toArray (fun w' => ∃ u : Cls w, w' = u.it) (fun a' => ∀ w', (∃ u : Cls w, w' = u.it) → wpList P l.toArray Q (endL l) a' w') (initL l) a) : (Code.region id l.toArray true).wp P Q a w := by
  obtain ⟨o, ho⟩ := end_one l hne
  have hsp := init_end l
  rw [ho] at hsp
  have hlen : (initL l).length = l.length - 1 := by have := congrArg List.length hsp; simp at this; omega
  have hpos : l.length = (initL l).length + 1 := by have := congrArg List.length hsp; simpa using this
  have hget : ∀ j, j < (initL l).length → (initL l)[j]? = l.toArray[0 + j]? := fun j hj => by
    rw [Nat.zero_add, List.getElem?_toArray, hsp, List.getElem?_append_left (by simpa [← hsp] using hj)]
    rw [← hsp]
  have hlast : l.toArray[l.length - 1]? = some o := by
    have h1 : (initL l ++ [o])[(initL l).length]? = some o := by simp
    rw [← hsp] at h1
    rw [List.getElem?_toArray, ← hlen]
    exact h1
  refine wp_region_any hm ?_
  have key := any_of_L (P := P) (md := .any) (ops := l.toArray) (C := fun w' => ∃ u : Cls w, w' = u.it) (last := l.length - 1) (Q := Q) ((initL l).length + 1) (Array.replicate l.length false) a { w with drawn := w.drawn + 1 }
    ⟨⟨_, (Below.refl w.heap.size w).drew⟩, rfl⟩
    (anyL_lex hs (initL l) 0 _ a hget (by omega) (by rw [hlen]; exact hB) (by
      have e1 : (fun a' => ∀ w', (∃ u : Cls w, w' = u.it) → wpList P l.toArray Q (endL l) a' w') = (fun a' => ∀ w', (∃ u : Cls w, w' = u.it) → wpOp P l.toArray Q (l.length - 1) (fun a'' w'' => Q .normal a'' w'') a' w') := by
        funext a'
        rw [ho]
        simp only [wpOp, hlast, wpList]
      rw [← e1]
      exact h))
  rw [← hpos] at key
  simpa using key
end
end Go.Proofs.YtlcblcoodabpeaaDoor

namespace Go.Proofs.YtlcblcoodabpeaaDoor
open Go.RowKit

theorem max_any (a b : Int) (w : World) : Calls Tryd.prog 22 #[.int .i64 a, .int .i64 b] w fun e w' => e = .returned (.int .i64 (mxB a b)) ∧ w' = w := by
  by_cases h : b < a
  · have HE : Hid (mxB a b = a) := by show _ = _; unfold mxB; rw [if_pos h]
    go_enter Tryd.func22, Tryd.ntmps22
    go_wp2
    go_ret
    exact ⟨by rw [HE.out]; rfl, rfl⟩
  · have HE : Hid (mxB a b = b) := by show _ = _; unfold mxB; rw [if_neg h]
    go_enter Tryd.func22, Tryd.ntmps22
    go_wp2
    go_ret
    exact ⟨by rw [HE.out]; rfl, rfl⟩
theorem min_any (a b : Int) (w : World) : Calls Tryd.prog 23 #[.int .i64 a, .int .i64 b] w fun e w' => e = .returned (.int .i64 (mnB a b)) ∧ w' = w := by
  by_cases h : a < b
  · have HE : Hid (mnB a b = a) := by show _ = _; unfold mnB; rw [if_pos h]
    go_enter Tryd.func23, Tryd.ntmps23
    go_wp2
    go_ret
    exact ⟨by rw [HE.out]; rfl, rfl⟩
  · have HE : Hid (mnB a b = b) := by show _ = _; unfold mnB; rw [if_neg h]
    go_enter Tryd.func23, Tryd.ntmps23
    go_wp2
    go_ret
    exact ⟨by rw [HE.out]; rfl, rfl⟩

theorem span_info : (Tryd.prog.info? 66).map (fun i => (i.zero, i.size, i.bytes)) = some (some (.agg #[.int .i64 0, .int .i64 0]), 2, 16) := by kernel_rfl

set_option maxRecDepth 20000 in
set_option maxHeartbeats 4000000 in
theorem spansS_wide (q s fr b : Int) (a : Option Addr) (b0 o cap : Nat) (l : List Stp) (w : World) (hs : StepsAt w a b0 o l) (hp : Wide q s fr b l) :
    Calls Tryd.prog 34 #[.agg #[.int .i64 q, .int .i64 s, .slice a l.length cap, .int .i64 fr, .int .i64 b]] w
      fun e w' => ∃ v, e = .returned (.tuple #[v, .bool (spanB q s fr b l)]) ∧ w'.ownsRow w.heap.size 66 2 v (spansL q s fr b l).length (spanCells (spansL q s fr b l)) ∧ Below w.heap.size w w' := by
  obtain ⟨i0, hi, hz0, hz1, hz2⟩ := info_parts span_info
  have HL := hp.len
  have hl : l.length ≤ 1048576 := by omega
  have HK := hp.kind
  go_enter Tryd.func34, Tryd.ntmps34
  go_wp2
  go_loopw [4, 6] (fun v u wr => ∃ k : Nat, k ≤ l.length + 1 ∧ u = .int .i64 k ∧ BoxP w wr q s fr b (.slice a l.length cap) ∧ wr.ownsRow (w.heap.size + 1) 66 2 v k (spanCells (fwdL q s fr b l k)) ∧ fwdTo q s fr b l k = true) (fun _ u _ => l.length + 1 - (intOf u).toNat)
  case atStart =>
    refine ⟨0, Nat.zero_le _, rfl, (BoxP.new w q s fr b _ _).keep ((Below.refl _ _).alloc (by simp) _), ?_, rfl⟩
    have h0 := owns_empty (base := w.heap.size + 1) (e := 66) (size := 2) (w := w.alloc (.cells #[.int .i64 q, .int .i64 s, .slice a l.length cap, .int .i64 fr, .int .i64 b] 31)) (by simp)
    rw [World.size_alloc] at h0
    exact h0
  case round =>
    obtain ⟨k, hk, rfl, hB, hown, hgood⟩ := hrel
    have HG : Hid (fwdTo q s fr b l k = true) := hgood
    clear hgood
    by_cases hlt : k < l.length + 1
    · have p0 := hB.p0
      have p1 := hB.p1
      have p2 := hB.p2
      have p3 := hB.p3
      have p4 := hB.p4
      have pl := hB.lt
      have k0 : (0 : Int) ≤ (k : Int) := by omega
      have k1 : (k : Int) ≤ (l.length : Int) := by omega
      have hS0 := hs.below hB.old hs.lt
      have hS : ∀ W, Below wr.heap.size wr W → StepsAt W a b0 o l := fun W h => hS0.below h hS0.lt
      have hR := Below.refl wr.heap.size wr
      go_wp2
      go_cut [7] (fun s7 wc => ∃ B, s7 = .pointer (some ⟨B, 0, none⟩) ∧ wr.heap.size ≤ B ∧ Below wr.heap.size wr wc ∧ wc.heap[B]? = some (.cells #[.int .i64 (lowB fr l k), .int .i64 (highB b l k)] 66 (0, 0)))
      case first =>
        go_region_held3 (fun w' => w'.cell? ⟨w.heap.size, 0, none⟩ = some (.int .i64 q) ∧ w'.cell? ⟨w.heap.size, 1, none⟩ = some (.int .i64 s) ∧ w'.cell? ⟨w.heap.size, 2, none⟩ = some (.slice a l.length cap) ∧ w'.cell? ⟨w.heap.size, 3, none⟩ = some (.int .i64 fr) ∧ w'.cell? ⟨w.heap.size, 4, none⟩ = some (.int .i64 b))
          (simp [go_sem, World.cell?_alloc_lt, *])
          (first
            | (go_at_call 52; refine (low_any _ _ _ _ _ b0 o _ _ k _ hl (hS _ ?_)).mono ?_; (first | exact hR.drew | exact hR.drew.alloc (Nat.le_refl _) _); rintro e w2 ⟨rfl, hb2⟩; have hb02 : Below wr.heap.size wr w2 := (by first | exact hR.drew.trans hb2 | exact (hR.drew.alloc (Nat.le_refl _) _).trans (hb2.mono (by simp))); have y0 : ∀ j, w2.cell? ⟨w.heap.size, j, none⟩ = wr.cell? ⟨w.heap.size, j, none⟩ := fun j => hb02.cell (p := ⟨w.heap.size, j, none⟩) pl; have z2 : w.heap.size < w2.heap.size := Nat.lt_of_lt_of_le pl hb02.size; (first | (have T2 : w2.heap[wr.heap.size]? = some (.cells #[.int .i64 0, .int .i64 0] 66 (0, 0)) := blk2_after hb2; obtain ⟨t20, t21, t22⟩ := blk2 T2) | (have T2 : w2.heap[wr.heap.size]? = some (.cells #[.int .i64 0, .int .i64 0] 66 (0, 0)) := blk2_after_drew hb2; obtain ⟨t20, t21, t22⟩ := blk2 T2) | skip))
            | (go_at_call 53; refine (high_any _ _ _ _ _ b0 o _ _ k _ hl (hS _ ?_)).mono ?_; (first | exact hb02 | exact hb02.alloc hb02.size _); rintro e w3 ⟨rfl, hb3⟩; have hb03 : Below wr.heap.size wr w3 := (by first | exact hb02.trans (hb3.mono hb02.size) | exact (hb02.alloc hb02.size _).trans (hb3.mono (by have := hb02.size; simp; omega))); have y1 : ∀ j, w3.cell? ⟨w.heap.size, j, none⟩ = wr.cell? ⟨w.heap.size, j, none⟩ := fun j => hb03.cell (p := ⟨w.heap.size, j, none⟩) pl; have z3 : w.heap.size < w3.heap.size := Nat.lt_of_lt_of_le pl hb03.size; (first | (have T3 := blk2_kept T2 hb3; obtain ⟨t30, t31, t32⟩ := blk2 T3) | (have T3 := blk2_after hb3; obtain ⟨t30, t31, t32⟩ := blk2 T3) | (have hw3 : Below w2.heap.size w2 w3 := hb3))))
        · go_wp2
          go_meet
          case rel => exact ⟨w3.heap.size, rfl, hb03.size, hb03.alloc hb03.size _, heap_alloc_new w3 _⟩
        · go_wp2
          go_meet
          case rel => exact ⟨w2.heap.size, rfl, hb02.size, (hb03.setCell (p := ⟨w2.heap.size, 0, none⟩) hb02.size _).setCell (p := ⟨w2.heap.size, 1, none⟩) hb02.size _, blk2_set1 (blk2_set0 T3 _) _⟩
        · go_wp2
          go_meet
          case rel => exact ⟨wr.heap.size, rfl, Nat.le_refl _, (hb03.setCell (p := ⟨wr.heap.size, 0, none⟩) (Nat.le_refl _) _).setCell (p := ⟨wr.heap.size, 1, none⟩) (Nat.le_refl _) _, blk2_set1 (blk2_set0 T3 _) _⟩
      case rest =>
        clear p0 p1 p2 p3 p4 hS hR
        obtain ⟨B, rfl, hBs, hbc, hblk⟩ := hcut
        have hBc := hB.below hbc
        have hownc := owns_below hown hbc
        have hBlt := lt_of_block hblk
        have hBne : ∀ j, u4.ownBlock = some j → j ≠ B := fun j hj => by have := owns_lt hown j hj; omega
        go_upto_if 26 with (fail)
        go_cut [] (fun wd => Below wr.heap.size wr wd ∧ wd.heap[B]? = some (.cells #[.int .i64 (fwdS q s fr b l k).1, .int .i64 (fwdS q s fr b l k).2] 66 (0, 0)))
        case first =>
          rcases Nat.eq_zero_or_pos k with hk0 | hk0
          · subst hk0
            go_wp2
            go_meet
            case rel => exact ⟨hbc, hblk⟩
          · obtain ⟨m, rfl⟩ : ∃ m, k = m + 1 := ⟨k - 1, by omega⟩
            have hml : m < l.length := by omega
            obtain ⟨g, ocap, rfl, hg1, hg2⟩ := owns_some hown (by omega)
            have hx0 := (hownc.cellAt (m * 2) (by omega)).trans (spanCells_get _ m _ (fwdL_get q s fr b l (m + 1) m (by omega))).1
            have hx1 := (hownc.cellAt (m * 2 + 1) (by omega)).trans (spanCells_get _ m _ (fwdL_get q s fr b l (m + 1) m (by omega))).2
            obtain ⟨c0, c1, cf⟩ := blk2 hblk
            have p0 := hBc.p0
            have p1 := hBc.p1
            have p2 := hBc.p2
            have p3 := hBc.p3
            have p4 := hBc.p4
            have pl := hBc.lt
            have r1 := hp.fwd_range m
            have r2 := fwdTo_at HG.out (show m < m + 1 by omega)
            have hgc : g < wc.heap.size := Nat.lt_of_lt_of_le hg2 hbc.size
            obtain ⟨f1, hf1⟩ : ∃ f1, (fwdS q s fr b l m).1 = f1 := ⟨_, rfl⟩
            obtain ⟨f2, hf2⟩ : ∃ f2, (fwdS q s fr b l m).2 = f2 := ⟨_, rfl⟩
            have F1 : Hid ((fwdS q s fr b l m).1 = f1) := hf1
            have F2 : Hid ((fwdS q s fr b l m).2 = f2) := hf2
            rw [hf1] at hx0 r1 r2
            rw [hf2] at hx1 r1 r2
            clear hf1 hf2
            have wm : IntKind.i64.wrap (m : Int) = (m : Int) := by rw [IntKind.wrap_i64]; omega
            have wf : IntKind.i64.wrap (f1 + q) = f1 + q := by rw [IntKind.wrap_i64]; omega
            have m0 : (0 : Int) ≤ (m : Int) := by omega
            have m1 : (m : Int) < (m : Int) + 1 := by omega
            have qn := Cls.any wc
            have q0 := Cls.cell hBlt
            have q1 := Cls.cell hgc
            have q2 := Cls.cell pl
            go_wp2
            refine wp_region_last (by kernel_rfl) (by simp) (by kernel_rfl) (by kernel_rfl) ?_
            simp only [initL, endL]
            repeat (go_big_quiet_step ((go_at_call 22; exact Calls.cls_of_same (max_any _ _ _))))
            refine wpQuiet_nil ?_
            rintro _ ⟨u, rfl⟩
            have T1 := blk2_kept hblk u.same
            obtain ⟨t0, t1, tf⟩ := blk2 T1
            clear c0 c1 cf q0 q1 q2 qn p0 p1 p2 p3 p4 pl
            go_wp2
            have T2 := blk2_set0 T1 (.int .i64 (mxB (lowB fr l (m + 1)) (f1 + q)))
            have bu : Below wr.heap.size wr u.it := hbc.trans (u.same.mono hbc.size)
            have b8 : Below wr.heap.size wr (u.it.setCell ⟨B, 0, none⟩ (.int .i64 (mxB (lowB fr l (m + 1)) (f1 + q)))) := bu.setCell (p := ⟨B, 0, none⟩) hBs _
            clear T1 t0 t1 tf bu
            generalize u.it.setCell ⟨B, 0, none⟩ (.int .i64 (mxB (lowB fr l (m + 1)) (f1 + q))) = w8 at T2 b8 ⊢
            have hBc8 := hB.below b8
            have hown8 := owns_below hown b8
            have hx8 := (hown8.cellAt (m * 2 + 1) (by omega)).trans (spanCells_get _ m _ (fwdL_get q s fr b l (m + 1) m (by omega))).2
            rw [F2.out] at hx8
            clear hx0 hx1
            obtain ⟨c0, c1, cf⟩ := blk2 T2
            have p0 := hBc8.p0
            have p1 := hBc8.p1
            have p2 := hBc8.p2
            have p3 := hBc8.p3
            have p4 := hBc8.p4
            have pl := hBc8.lt
            have hg8 : g < w8.heap.size := Nat.lt_of_lt_of_le hg2 b8.size
            have hB8 : B < w8.heap.size := lt_of_block T2
            have mr := hp.most_range m
            obtain ⟨mo, hmo⟩ : ∃ mo, mostB s l m = mo := ⟨_, rfl⟩
            have MO : Hid (mostB s l m = mo) := hmo
            rw [hmo] at mr
            have wf2 : IntKind.i64.wrap (f2 + mo) = f2 + mo := by rw [IntKind.wrap_i64]; omega
            have qn := Cls.any w8
            have q0 := Cls.cell hB8
            have q1 := Cls.cell hg8
            have q2 := Cls.cell pl
            have hS8 : ∀ u : Cls w8, StepsAt u.it a b0 o l := fun u => (hs.below hBc8.old hs.lt).below u.same (hs.below hBc8.old hs.lt).lt
            have HM : ∀ (u : Cls w8), Calls Tryd.prog 54 #[.agg #[.int .i64 q, .int .i64 s, .slice a l.length cap, .int .i64 fr, .int .i64 b], .int .i64 (m : Int)] u.it fun e w' => e = .returned (.int .i64 mo) ∧ Below u.it.heap.size u.it w' := fun u => by
              have := most_any q s fr b a b0 o cap l m u.it hl (hS8 u) hml
              rwa [hmo] at this
            clear hmo hS8
            refine wp_region_last (by kernel_rfl) (by simp) (by kernel_rfl) (by kernel_rfl) ?_
            simp only [initL, endL]
            repeat (go_big_quiet_step (first | (go_at_call 54; exact Calls.cls_of (HM _)) | (go_at_call 23; exact Calls.cls_of_same (min_any _ _ _))))
            refine wpQuiet_nil ?_
            rintro _ ⟨u2, rfl⟩
            have T3 := blk2_kept T2 u2.same
            obtain ⟨t0, t1, tf⟩ := blk2 T3
            clear c0 c1 cf q0 q1 q2 qn p0 p1 p2 p3 p4 pl HM
            go_wp2
            go_meet
            case rel =>
              refine ⟨(b8.trans (u2.same.mono b8.size)).setCell (p := ⟨B, 1, none⟩) hBs _, ?_⟩
              have T4 := blk2_set1 T3 (.int .i64 (mnB (highB b l (m + 1)) (f2 + mo)))
              simp only [fwdS]
              rw [F1.out, F2.out, MO.out]
              exact T4
        case rest =>
          obtain ⟨hbd, hblkd⟩ := hcut
          have hBd := hB.below hbd
          have hownd := owns_below hown hbd
          obtain ⟨c0, c1, cf⟩ := blk2 hblkd
          clear hblk hbc hBc hownc
          cases hsm : someB (fwdS q s fr b l k) with
          | false =>
            have hgt : (fwdS q s fr b l k).2 < (fwdS q s fr b l k).1 := by simp [someB] at hsm; omega
            have HE : Hid (spanB q s fr b l = false) := by show _ = _; unfold spanB; rw [fwdTo_not hlt hsm]; rfl
            have HE2 : Hid (spansL q s fr b l = []) := by show _ = _; unfold spansL; rw [HE.out]; rfl
            have H0 : Hid ((wc.alloc (.cells #[] 66)).ownsRow w.heap.size 66 2 (.slice (some ⟨wc.heap.size, 0, none⟩) 0 0) 0 []) := owns_empty (by have := hBd.lt; omega)
            clear hsm
            go_wp2
            go_ret2
            exact ⟨_, by rw [HE.out]; rfl, by rw [HE2.out]; exact H0.out, hBd.old.alloc (by have := hBd.lt; omega) _⟩
          | true =>
            have hle : ¬ (fwdS q s fr b l k).2 < (fwdS q s fr b l k).1 := by simp [someB] at hsm; omega
            have G1 : Hid (fwdTo q s fr b l (k + 1) = true) := by show _ = _; rw [fwdTo_succ HG.out, hsm]
            clear hsm
            have hz := hBd.lt
            go_wp2_with (at_builtin; (refine wpList_append_own _ rfl _ _ 62 rfl (w.heap.size + 1) 66 i0 (.agg #[.int .i64 0, .int .i64 0]) 2 16 Tryd.underlying62 hi hz0 hz1 hz2 rfl (by decide) _ _ _ rfl (hownd.alloc _) ⟨wc.heap.size, 0, none⟩ 1 1 (spanC (fwdS q s fr b l k)) rfl rfl (two_new _ _ _ _) (by simp [Value.oneCell']) (by unfold maxLen; omega) (by omega) (by simp; omega) ?_); intro v' w1 hown' hgrow _)
            have hbel : Below (w.heap.size + 1) wr w1 := ((hbd.mono (by omega)).alloc (by omega) _).grown hgrow (by simp; omega) (owns_base hownd)
            refine ⟨⟨k + 1, by omega, by go_num, hB.keep hbel, ?_, G1.out⟩, by simp [intOf]; omega⟩
            rw [fwdL_succ, spanCells_snoc]
            exact hown'
    · obtain rfl : k = l.length + 1 := by omega
      obtain ⟨g, ocap, rfl, hg1, hg2⟩ := owns_some hown (by omega)
      rw [← backL_zero] at hown
      go_wp2
      go_loopw [8] (fun v wi => ∃ i : Nat, i ≤ l.length ∧ v = .int .i64 ((i : Int) - 1) ∧ BoxP w wi q s fr b (.slice a l.length cap) ∧ wi.ownsRow (w.heap.size + 1) 66 2 (.slice (some ⟨g, 0, none⟩) (l.length + 1) ocap) (l.length + 1) (spanCells (backL q s fr b l l.length (l.length - i)))) (fun v _ => (intOf v + 1).toNat)
      case atStart => exact ⟨l.length, Nat.le_refl _, rfl, hB, by rw [Nat.sub_self]; exact hown⟩
      case round =>
        clear hB hown hg2
        obtain ⟨i, hi', rfl, hB, hown⟩ := hrel
        rcases i with _ | m
        · have HE : Hid (spanB q s fr b l = true) := by show _ = _; rw [hp.span_fwd]; exact HG.out
          have HL2 : Hid ((spansL q s fr b l).length = l.length + 1) := by show _ = _; rw [← backL_all HE.out, backL_length]
          go_wp2
          go_ret2
          refine ⟨_, by rw [HE.out]; rfl, ?_, hB.old⟩
          rw [HL2.out, ← backL_all HE.out]
          refine ⟨hown.1, hown.2.imp id fun ⟨g, cap, cur, h1, h2, h3⟩ => ⟨g, cap, cur, h1, by omega, h3⟩⟩
        · have e0 : (((m + 1 : Nat) : Int) - 1) = (m : Int) := by omega
          rw [e0]
          obtain ⟨J, hJ, e1, e2, e3⟩ : ∃ J, J < l.length ∧ l.length - (m + 1) = J ∧ l.length - (J + 1) = m ∧ l.length - m = J + 1 := ⟨l.length - (m + 1), by omega, rfl, by omega, by omega⟩
          rw [e1] at hown
          have gn := backL_now q s fr b l l.length J hJ
          have gx := backL_next q s fr b l l.length J hJ
          rw [e2] at gn gx
          have x0 := (hown.cellAt (m * 2) (by omega)).trans (spanCells_get _ m _ gn).1
          have x1 := (hown.cellAt (m * 2 + 1) (by omega)).trans (spanCells_get _ m _ gn).2
          have y0 := (hown.cellAt ((m + 1) * 2) (by omega)).trans (spanCells_get _ (m + 1) _ gx).1
          have y1 := (hown.cellAt ((m + 1) * 2 + 1) (by omega)).trans (spanCells_get _ (m + 1) _ gx).2
          have r1 := hp.fwd_range m
          have r2 := fwdTo_at HG.out (show m < l.length + 1 by omega)
          have r3 := hp.bwd_in HG.out J (by omega)
          have r4 := hp.fwd_range (l.length - J)
          have r5 := hp.bwd_in HG.out (J + 1) (by omega)
          have BS : Hid (bwdS q s fr b l l.length (J + 1) = (mxB (fwdS q s fr b l m).1 ((bwdS q s fr b l l.length J).1 - mostB s l m), mnB (fwdS q s fr b l m).2 ((bwdS q s fr b l l.length J).2 - q))) := by
            show _ = _
            simp only [bwdS]
            rw [e2]
          have hle := r5.1
          rw [BS.out] at hle
          have hml : m < l.length := by omega
          have mr := hp.most_range m
          clear r5 gn gx
          obtain ⟨f1, hf1⟩ : ∃ f1, (fwdS q s fr b l m).1 = f1 := ⟨_, rfl⟩
          obtain ⟨f2, hf2⟩ : ∃ f2, (fwdS q s fr b l m).2 = f2 := ⟨_, rfl⟩
          obtain ⟨h1, hh1⟩ : ∃ h1, (bwdS q s fr b l l.length J).1 = h1 := ⟨_, rfl⟩
          obtain ⟨h2, hh2⟩ : ∃ h2, (bwdS q s fr b l l.length J).2 = h2 := ⟨_, rfl⟩
          obtain ⟨mo, hmo⟩ : ∃ mo, mostB s l m = mo := ⟨_, rfl⟩
          rw [hf1] at x0 r1 r2
          rw [hf2] at x1 r1 r2
          rw [hh1] at y0 r3
          rw [hh2] at y1 r3
          rw [hmo] at mr
          have BS2 : Hid (bwdS q s fr b l l.length (J + 1) = (mxB f1 (h1 - mo), mnB f2 (h2 - q))) := by
            show _ = _
            rw [BS.out, hf1, hf2, hh1, hh2, hmo]
          have hle2 : mxB f1 (h1 - mo) ≤ mnB f2 (h2 - q) := by
            have := hle
            simp only [hf1, hf2, hh1, hh2, hmo] at this
            exact this
          obtain ⟨n1, hn1⟩ : ∃ n1, mxB f1 (h1 - mo) = n1 := ⟨_, rfl⟩
          obtain ⟨n2, hn2⟩ : ∃ n2, mnB f2 (h2 - q) = n2 := ⟨_, rfl⟩
          rw [hn1, hn2] at hle2
          have BS3 : Hid (bwdS q s fr b l l.length (J + 1) = (n1, n2)) := by show _ = _; rw [BS2.out, hn1, hn2]
          have MX : ∀ (W : World), Calls Tryd.prog 22 #[.int .i64 f1, .int .i64 (h1 - mo)] W fun e w' => e = .returned (.int .i64 n1) ∧ w' = W := fun W => by rw [← hn1]; exact max_any _ _ _
          have MN : ∀ (W : World), Calls Tryd.prog 23 #[.int .i64 f2, .int .i64 (h2 - q)] W fun e w' => e = .returned (.int .i64 n2) ∧ w' = W := fun W => by rw [← hn2]; exact min_any _ _ _
          have wf1 : IntKind.i64.wrap (h1 - mo) = h1 - mo := by rw [IntKind.wrap_i64]; omega
          have wf2 : IntKind.i64.wrap (h2 - q) = h2 - q := by rw [IntKind.wrap_i64]; omega
          have wm : IntKind.i64.wrap ((m : Int) + 1) = (m : Int) + 1 := by rw [IntKind.wrap_i64]; omega
          have hS0 := hs.below hB.old hs.lt
          have HM : ∀ (u : Cls wr), Calls Tryd.prog 54 #[.agg #[.int .i64 q, .int .i64 s, .slice a l.length cap, .int .i64 fr, .int .i64 b], .int .i64 (m : Int)] u.it fun e w' => e = .returned (.int .i64 mo) ∧ Below u.it.heap.size u.it w' := fun u => by
            have := most_any q s fr b a b0 o cap l m u.it hl (hS0.below u.same hS0.lt) hml
            rwa [hmo] at this
          clear hle BS BS2 hf1 hf2 hh1 hh2 hn1 hn2 hS0 r4
          have p0 := hB.p0
          have p1 := hB.p1
          have p2 := hB.p2
          have p3 := hB.p3
          have p4 := hB.p4
          have pl := hB.lt
          have hgr : g < wr.heap.size := (hown.lt g rfl).2
          have m0 : (0 : Int) ≤ (m : Int) := by omega
          have m1 : (m : Int) < (l.length : Int) + 1 := by omega
          have m2 : (m : Int) + 1 < (l.length : Int) + 1 := by omega
          have m3 : (0 : Int) ≤ (m : Int) + 1 := by omega
          have qn := Cls.any wr
          have q1 := Cls.cell hgr
          have q2 := Cls.cell pl
          go_wp2
          refine wp_region_last (by kernel_rfl) (by simp) (by kernel_rfl) (by kernel_rfl) ?_
          simp only [initL, endL]
          repeat (go_big_quiet_step (first | (go_at_call 54; exact Calls.cls_of (HM _)) | (go_at_call 22; exact Calls.cls_of_same (MX _))))
          refine wpQuiet_nil ?_
          rintro _ ⟨u, rfl⟩
          have hownu := owns_below hown u.same
          have t0 := (hownu.cellAt (m * 2) (by omega)).trans ((hown.cellAt (m * 2) (by omega)).symm.trans x0)
          have tf := hownu.frozenAt
          clear q1 q2 qn HM MX
          go_wp2
          have bu : Below (w.heap.size + 1) wr u.it := u.same.mono (by omega)
          have b8 : Below (w.heap.size + 1) wr (u.it.setCell ⟨g, m * 2, none⟩ (.int .i64 n1)) := bu.setCell (p := ⟨g, m * 2, none⟩) hg1 _
          have hown8 := owns_put hownu (j := m * 2) (by omega) (.int .i64 n1)
          have hlen : (spanCells (backL q s fr b l l.length J)).length = (l.length + 1) * 2 := hown.1
          have z0 : ((spanCells (backL q s fr b l l.length J)).set (m * 2) (.int .i64 n1))[m * 2]? = some (.int .i64 n1) := List.getElem?_set_self (by omega)
          have z1 : ((spanCells (backL q s fr b l l.length J)).set (m * 2) (.int .i64 n1))[m * 2 + 1]? = some (.int .i64 f2) := by
            rw [List.getElem?_set_ne (by omega), ← hown.cellAt (m * 2 + 1) (by omega)]; exact x1
          have z2 : ((spanCells (backL q s fr b l l.length J)).set (m * 2) (.int .i64 n1))[(m + 1) * 2 + 1]? = some (.int .i64 h2) := by
            rw [List.getElem?_set_ne (by omega), ← hown.cellAt ((m + 1) * 2 + 1) (by omega)]; exact y1
          clear t0 tf hownu bu x0 x1 y0 y1 p0 p1 p2 p3 p4
          generalize u.it.setCell ⟨g, m * 2, none⟩ (.int .i64 n1) = w8 at hown8 b8 ⊢
          have hB8 := hB.keep b8
          have x1 := (hown8.cellAt (m * 2 + 1) (by omega)).trans z1
          have y1 := (hown8.cellAt ((m + 1) * 2 + 1) (by omega)).trans z2
          have p0 := hB8.p0
          have p1 := hB8.p1
          have pl8 := hB8.lt
          have hgr8 : g < w8.heap.size := (hown8.lt g rfl).2
          have qn := Cls.any w8
          have q1 := Cls.cell hgr8
          have q2 := Cls.cell pl8
          refine wp_region_last (by kernel_rfl) (by simp) (by kernel_rfl) (by kernel_rfl) ?_
          simp only [initL, endL]
          repeat (go_big_quiet_step ((go_at_call 23; exact Calls.cls_of_same (MN _))))
          refine wpQuiet_nil ?_
          rintro _ ⟨u2, rfl⟩
          have hownu2 := owns_below hown8 u2.same
          have t0 := (hownu2.cellAt (m * 2 + 1) (by omega)).trans z1
          have tf := hownu2.frozenAt
          clear q1 q2 qn MN
          go_wp2
          have b9 : Below (w.heap.size + 1) w8 (u2.it.setCell ⟨g, m * 2 + 1, none⟩ (.int .i64 n2)) := (u2.same.mono (by omega)).setCell (p := ⟨g, m * 2 + 1, none⟩) hg1 _
          have hown9 := owns_put hownu2 (j := m * 2 + 1) (by omega) (.int .i64 n2)
          have z3 : (((spanCells (backL q s fr b l l.length J)).set (m * 2) (.int .i64 n1)).set (m * 2 + 1) (.int .i64 n2))[m * 2]? = some (.int .i64 n1) := by
            rw [List.getElem?_set_ne (by omega)]; exact z0
          have z4 : (((spanCells (backL q s fr b l l.length J)).set (m * 2) (.int .i64 n1)).set (m * 2 + 1) (.int .i64 n2))[m * 2 + 1]? = some (.int .i64 n2) := List.getElem?_set_self (by rw [List.length_set]; omega)
          clear t0 tf hownu2 x1 y1 p0 p1
          generalize u2.it.setCell ⟨g, m * 2 + 1, none⟩ (.int .i64 n2) = w9 at hown9 b9 ⊢
          have hB9 := hB8.keep b9
          have x0 := (hown9.cellAt (m * 2) (by omega)).trans z3
          have x1 := (hown9.cellAt (m * 2 + 1) (by omega)).trans z4
          have hgr9 : g < w9.heap.size := (hown9.lt g rfl).2
          have RW : Hid (w9.ownsRow (w.heap.size + 1) 66 2 (.slice (some ⟨g, 0, none⟩) (l.length + 1) ocap) (l.length + 1) (spanCells (backL q s fr b l l.length (l.length - m)))) := by
            show World.ownsRow _ _ _ _ _ _ _
            rw [e3, backL_succ q s fr b l l.length J hJ, e2, BS3.out, spanCells_set]
            exact hown9
          have qn := Cls.any w9
          have q1 := Cls.cell hgr9
          clear z0 z1 z2 z3 z4 hown9 hown8 hown hlen
          refine wp_region_cls (by kernel_rfl) (by kernel_rfl) ?_
          repeat (go_big_quiet_step (fail))
          refine wpQuiet_nil ?_
          rintro _ ⟨u3, rfl⟩
          clear q1 qn
          go_wp2
          go_roundw
          case rel => exact ⟨m, by omega, by go_num, hB9.below u3.same, owns_below RW.out u3.same⟩
          case measure => simp [intOf]
end Go.Proofs.YtlcblcoodabpeaaDoor

namespace Go.Proofs.YtlcblcoodabpeaaDoor
open Go.RowKit

/-- The contract of the program's FlySpans. -/
def SpansSaid : Prop := ∀ (q s fr b : Int) (a : Option Addr) (b0 o cap : Nat) (l : List Stp) (w : World), l.length ≤ 1048576 → StepsAt w a b0 o l →
    Calls Tryd.prog 38 #[.agg #[.int .i64 q, .int .i64 s, .slice a l.length cap, .int .i64 fr, .int .i64 b]] w
      fun e w' => ∃ v, e = .returned (.tuple #[v, .bool (flyB q s fr b l)]) ∧ w'.ownsRow w.heap.size 66 2 v (flyL q s fr b l).length (spanCells (flyL q s fr b l)) ∧ Below w.heap.size w w'
end Go.Proofs.YtlcblcoodabpeaaDoor
