/- The program's iterator over pairs of places. -/
import Derived.RangeFuncNested
import Derived.RangeFuncBound
import Derived.RangeFuncCalls
import Derived.RangeFuncLeaves
import Derived.Shelf.Abstract
import Derived.Shelf.RegionOpen
import Derived.WalkKit
import Derived.OwnWalkIn
import Derived.TacticsInMore
import Derived.LoopNIn
import Derived.LoopIn
import Derived.Stop.RegionWithIn
import Derived.Test.YtgjleeamhkolhaaGreatDoorRows
import Derived.Test.YtgjleeamhkolhaaGreatDoorPbMeetD
namespace Go.Proofs.YtgjleeamhkolhaaGreatDoor
open Go.RowKit Go.Shelf
attribute [local go_sem] Oper.semAt_some

/-- A pair of places. -/
abbrev Pr (N M : Nat) := Fin N × Fin M
abbrev encI {N M : Nat} (x : Pr N M) : Array Value := #[.int .i64 x.1.val, .int .i64 x.2.val]
abbrev vp {N M : Nat} (x : Pr N M) : Nat × Nat := (x.1.val, x.2.val)

/-- The two blocks of the iterator lie as they lay. -/
def KeepP (Ba Bb : Nat) (A B : World) : Prop := B.heap[Ba]? = A.heap[Ba]? ∧ B.heap[Bb]? = A.heap[Bb]?
theorem KeepP.refl (Ba Bb : Nat) (A : World) : KeepP Ba Bb A A := ⟨rfl, rfl⟩
theorem KeepP.trans {Ba Bb : Nat} {A B C : World} (h : KeepP Ba Bb A B) (k : KeepP Ba Bb B C) : KeepP Ba Bb A C := ⟨k.1.trans h.1, k.2.trans h.2⟩
theorem KeepP.putObj {Ba Bb : Nat} {w : World} (ha : Ba < w.heap.size) (hb : Bb < w.heap.size) (W : World) (l : Nat) (o o' : Obj) (hl : w.heap.size ≤ l) (_ : W.heap[l]? = some o) (_ : o.isCells = false) (_ : o.isWalk = false) : KeepP Ba Bb W (W.putObj l o') :=
  ⟨World.putObj_heap_other (by omega), World.putObj_heap_other (by omega)⟩
theorem KeepP.below {Ba Bb : Nat} {A B : World} (ha : Ba < A.heap.size) (hb : Bb < A.heap.size) (h : Below A.heap.size A B) : KeepP Ba Bb A B := ⟨h.block Ba ha, h.block Bb hb⟩
theorem KeepP.set {Ba Bb : Nat} {A B : World} (h : KeepP Ba Bb A B) {p : Addr} (ha : p.block ≠ Ba) (hb : p.block ≠ Bb) (v : Value) : KeepP Ba Bb A (B.setCell p v) :=
  ⟨(heap_setCell_other B p Ba v (fun e => ha e.symm)).trans h.1, (heap_setCell_other B p Bb v (fun e => hb e.symm)).trans h.2⟩
theorem pairsJ_length (k n j : Nat) : (pairsJ k n j).length = n * k + j := by simp [pairsJ, pairsN_length]
theorem pairsJ_short {k n j N : Nat} (hn : n < N) (hj : j < k) : (pairsJ k n j).length < N * k := by
  rw [pairsJ_length]
  have : (n + 1) * k ≤ N * k := Nat.mul_le_mul_right k hn
  rw [Nat.succ_mul] at this
  omega
theorem pairsN_pre {k n N : Nat} (h : n ≤ N) : ∃ post, pairsN k N = pairsN k n ++ post := by
  induction N with
  | zero => obtain rfl : n = 0 := by omega
            exact ⟨[], rfl⟩
  | succ N ih =>
    by_cases hn : n = N + 1
    · subst hn; exact ⟨[], by simp⟩
    · obtain ⟨post, hp⟩ := ih (by omega)
      exact ⟨post ++ (List.range k).map (fun j => (N, j)), by rw [← List.append_assoc, ← hp]; rfl⟩
theorem pairsJ_pre {k n j N : Nat} (hn : n < N) (hj : j ≤ k) : ∃ post, pairsN k N = pairsJ k n j ++ post := by
  obtain ⟨p1, h1⟩ := pairsN_pre (k := k) (n := n + 1) (N := N) hn
  refine ⟨((List.range (k - j)).map (fun i => (n, j + i))) ++ p1, ?_⟩
  rw [h1, ← List.append_assoc]
  congr 1
  show pairsN k n ++ (List.range k).map (fun i => (n, i)) = _
  unfold pairsJ
  rw [List.append_assoc]
  congr 1
  obtain ⟨d, rfl⟩ : ∃ d, k = j + d := ⟨k - j, by omega⟩
  rw [Nat.add_sub_cancel_left, List.range_add, List.map_append, List.map_map]
  rfl

set_option maxRecDepth 100000 in
set_option maxHeartbeats 4000000 in
theorem bp1_in (n : Nat) (hn : 1 ≤ n) (lp Ba Bb N M ca cb : Nat) (a a' : Option Addr) (hN : N ≤ 1048576) (hM : M ≤ 1048576) (J Jx : List (Pr N M) → World → Prop)
    (hY : ∀ pre x W, J pre W → pre.length < N * M → YieldAt Fence.wide (n - 1) Tryz.prog lp (encI x) W fun e W' =>
      (e = .returned (.bool true) ∧ J (pre ++ [x]) W' ∧ KeepP Ba Bb W W') ∨ (e = .returned (.bool false) ∧ Jx (pre ++ [x]) W'))
    (W : World) (hc : W.cell? ⟨Ba, 0, none⟩ = some (.slice a N ca)) (hc' : W.cell? ⟨Bb, 0, none⟩ = some (.slice a' M cb)) (h0 : J [] W) :
    CallsIn Fence.wide n Tryz.prog 168 #[.func (.yield lp) #[] #[], .pointer (some ⟨Ba, 0, none⟩), .pointer (some ⟨Bb, 0, none⟩)] W fun e W' => (∃ v, e = .returned v) ∧
      ((∃ ys, ys.map vp = pairsN M N ∧ J ys W') ∨ (∃ pre : List (Pr N M), (∃ post, pairsN M N = pre.map vp ++ post) ∧ Jx pre W')) := by
  refine callsIn_of_wp Tryz.func168 rfl trivial ?_ rfl
  simp only [Tryz.ntmps168, List.size_toArray, List.length_cons, List.length_nil, Nat.reduceAdd, Nat.reduceSub, Array.replicate_succ, Array.replicate_zero, List.push_toArray, List.append_toArray, List.nil_append, List.cons_append]
  gi_wp2
  gi_loopw [8] (fun i wr => ∃ k : Nat, k ≤ N ∧ i = .int .i64 k ∧ (∃ pre : List (Pr N M), pre.map vp = pairsN M k ∧ J pre wr) ∧ KeepP Ba Bb W wr) (fun i _ => N - (intOf i).toNat)
  case atStart => exact ⟨0, Nat.zero_le _, rfl, ⟨[], rfl, h0⟩, KeepP.refl _ _ _⟩
  case round =>
    obtain ⟨k, hk, rfl, hJs, hnx⟩ := hrel
    by_cases hlt : k < N
    · have hcx' := (World.cell?_of_block (a := ⟨Bb, 0, none⟩) hnx.2).trans hc'
      have k0 : (0 : Int) ≤ (k : Int) := by omega
      have k1 : (k : Int) < (N : Int) := by omega
      gi_wp2
      gi_loopw [13] (fun i wr => ∃ j : Nat, j ≤ M ∧ i = .int .i64 j ∧ (∃ pre : List (Pr N M), pre.map vp = pairsJ M k j ∧ J pre wr) ∧ KeepP Ba Bb W wr) (fun i _ => M - (intOf i).toNat)
      case atStart => exact ⟨0, Nat.zero_le _, rfl, by rw [pairsJ_zero]; exact hJs, hnx⟩
      case round =>
        clear hJs hnx hcx'
        obtain ⟨j, hj, rfl, hJs, hnx⟩ := hrel
        by_cases hltj : j < M
        · obtain ⟨pre, hpre, hJs⟩ := hJs
          obtain ⟨fn, tmps, assign, body, hy, hR⟩ := hY pre (⟨k, hlt⟩, ⟨j, hltj⟩) wr hJs (by have := pairsJ_short hlt hltj; rw [← hpre, List.length_map] at this; exact this)
          have hnext : (pre ++ [((⟨k, hlt⟩, ⟨j, hltj⟩) : Pr N M)]).map vp = pairsJ M k (j + 1) := by rw [List.map_append, hpre, pairsJ_succ]; rfl
          have HX : Hid ((pre ++ [((⟨k, hlt⟩, ⟨j, hltj⟩) : Pr N M)]).map vp = pairsJ M k (j + 1)) := hnext
          clear hnext
          dsimp only [encI] at hy
          clear hY
          have j0 : (0 : Int) ≤ (j : Int) := by omega
          have j1 : (j : Int) < (M : Int) := by omega
          gi_wp2_with fail
          refine hR.mono ?_
          rintro e W3 (⟨rfl, hJ3, hk3⟩ | ⟨rfl, hJx3⟩)
          · gi_wp2
            go_roundw
            case rel => exact ⟨j + 1, by omega, by go_num, ⟨_, HX.out, hJ3⟩, hnx.trans hk3⟩
            case measure => simp [intOf]; omega
          · gi_wp2
            refine bodyPost_ret (results_none rfl _ _ _) rfl ?_
            exact ⟨⟨_, rfl⟩, .inr ⟨_, by rw [HX.out]; exact pairsJ_pre hlt (by omega), hJx3⟩⟩
        · obtain rfl : j = M := by omega
          gi_wp2
          go_roundw
          case rel => exact ⟨k + 1, by omega, by go_num, by rw [← pairsJ_all]; exact hJs, hnx⟩
          case measure => simp [intOf]; omega
    · obtain rfl : k = N := by omega
      gi_wp2
      go_end0
      obtain ⟨pre, hpre, hJs⟩ := hJs
      exact ⟨⟨_, rfl⟩, .inl ⟨_, hpre, hJs⟩⟩

set_option maxHeartbeats 1000000 in
theorem bp_in (n : Nat) (a a' : Option Addr) (N M ca cb : Nat) (w : World) :
    CallsIn Fence.wide n Tryz.prog 153 #[.slice a N ca, .slice a' M cb] w fun e w' => e = .returned (.func (.func 168) #[] #[.pointer (some ⟨w.heap.size, 0, none⟩), .pointer (some ⟨w.heap.size + 1, 0, none⟩)]) ∧ w' = (w.alloc (.cells #[.slice a N ca] 130)).alloc (.cells #[.slice a' M cb] 130) := by
  refine callsIn_of_wp Tryz.func153 rfl trivial ?_ rfl
  simp only [Tryz.ntmps153, List.size_toArray, List.length_cons, List.length_nil, Nat.reduceAdd, Nat.reduceSub, Array.replicate_succ, Array.replicate_zero, List.push_toArray, List.append_toArray, List.nil_append, List.cons_append]
  gi_wp2
  go_ret
  exact ⟨rfl, rfl⟩

theorem bp_stops (n : Nat) (hn : 1 ≤ n) (Ba Bb N M ca cb : Nat) (a a' : Option Addr) (hN : N ≤ 1048576) (hM : M ≤ 1048576) (w : World) (hBa : Ba < w.heap.size) (hBb : Bb < w.heap.size)
    (hc : w.cell? ⟨Ba, 0, none⟩ = some (.slice a N ca)) (hc' : w.cell? ⟨Bb, 0, none⟩ = some (.slice a' M cb)) :
    SeqStopsK Fence.wide n Tryz.prog 168 #[.pointer (some ⟨Ba, 0, none⟩), .pointer (some ⟨Bb, 0, none⟩)] (encI (N := N) (M := M)) (KeepP Ba Bb) (fun ys => ys.map vp = pairsN M N) (fun pre => ∃ post, pairsN M N = pre.map vp ++ post) (N * M) w := fun lp J Jx W hW _ _ hY h0 =>
  bp1_in n hn lp Ba Bb N M ca cb a a' hN hM J Jx hY W ((hW.cell (p := ⟨Ba, 0, none⟩) hBa).trans hc) ((hW.cell (p := ⟨Bb, 0, none⟩) hBb).trans hc') h0
end Go.Proofs.YtgjleeamhkolhaaGreatDoor
