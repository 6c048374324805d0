/- The iterators over a list of steps, forward and back, by what they hand over. -/
import Derived.RangeFuncNested
import Derived.RangeFuncBound
import Derived.RangeFuncCalls
import Derived.RangeFuncLeaves
import Derived.Shelf.Abstract
import Derived.Shelf.RegionOpen
import Derived.WalkKit
import Derived.OwnWalkIn
import Derived.TacticsInMore
import Derived.LoopNIn
import Derived.LoopIn
import Derived.Stop.RegionWithIn
import Derived.Test.YtijcdikekgmfoaaGreatDoorData
import Derived.Test.YtijcdikekgmfoaaGreatDoorRows
namespace Go.Proofs.YtijcdikekgmfoaaGreatDoor
open Go.RowKit Go.Shelf
attribute [local go_sem] Oper.semAt_some

/-- A step of a list, with its place. -/
abbrev El (l : List Stp) : Type := { x : Nat × Stp // l[x.1]? = some x.2 }
/-- The first k steps, each with its place. -/
def allE (l : List Stp) : Nat → List (El l)
  | 0 => []
  | k + 1 => allE l k ++ (match h : l[k]? with | some t => [⟨(k, t), h⟩] | none => [])
theorem allE_succ {l : List Stp} {k : Nat} {t : Stp} (h : l[k]? = some t) : allE l (k + 1) = allE l k ++ [⟨(k, t), h⟩] := by
  show allE l k ++ (match h : l[k]? with | some t => [⟨(k, t), h⟩] | none => []) = _
  congr 1
  split
  · rename_i u hu
    rw [h] at hu
    cases hu
    rfl
  · rename_i hu
    rw [h] at hu
    cases hu
theorem allE_length (l : List Stp) : ∀ k, k ≤ l.length → (allE l k).length = k
  | 0, _ => rfl
  | k + 1, hk => by
    rw [allE_succ (t := l[k]) (List.getElem?_eq_getElem (by omega)), List.length_append, allE_length l k (by omega)]; rfl
/-- The last k steps, from the last one on. -/
def backE (l : List Stp) : Nat → List (El l)
  | 0 => []
  | k + 1 => backE l k ++ (match h : l[l.length - 1 - k]? with | some t => [⟨(l.length - 1 - k, t), h⟩] | none => [])
theorem backE_succ {l : List Stp} {k m : Nat} {t : Stp} (hm : l.length - 1 - k = m) (h : l[m]? = some t) : backE l (k + 1) = backE l k ++ [⟨(m, t), h⟩] := by
  subst hm
  show backE l k ++ (match h : l[l.length - 1 - k]? with | some t => [⟨(l.length - 1 - k, t), h⟩] | none => []) = _
  congr 1
  split
  · rename_i u hu
    rw [h] at hu
    cases hu
    rfl
  · rename_i hu
    rw [h] at hu
    cases hu
theorem backE_length (l : List Stp) : ∀ k, k ≤ l.length → (backE l k).length = k
  | 0, _ => rfl
  | k + 1, hk => by
    rw [backE_succ (t := l[l.length - 1 - k]) rfl (List.getElem?_eq_getElem (by omega)), List.length_append, backE_length l k (by omega)]; rfl

/-- All blocks below n₀ but g lie as they lay. -/
structure KeepX (n₀ g : Nat) (A B : World) : Prop where
  size : A.heap.size ≤ B.heap.size
  block : ∀ i, i < n₀ → i ≠ g → B.heap[i]? = A.heap[i]?
theorem KeepX.refl (n₀ g : Nat) (A : World) : KeepX n₀ g A A := ⟨Nat.le_refl _, fun _ _ _ => rfl⟩
theorem KeepX.trans {n₀ g : Nat} {A B C : World} (h : KeepX n₀ g A B) (k : KeepX n₀ g B C) : KeepX n₀ g A C := ⟨Nat.le_trans h.size k.size, fun i hi hg => (k.block i hi hg).trans (h.block i hi hg)⟩
theorem KeepX.of_below {n₀ g : Nat} {A B : World} (h : Below n₀ A B) : KeepX n₀ g A B := ⟨h.size, fun i hi _ => h.block i hi⟩
theorem KeepX.cell {n₀ g : Nat} {A B : World} (h : KeepX n₀ g A B) {p : Addr} (hp : p.block < n₀) (hg : p.block ≠ g) : B.cell? p = A.cell? p := World.cell?_of_block (h.block p.block hp hg)
theorem KeepX.putObj {n₀ g : Nat} {w : World} (hn : n₀ ≤ w.heap.size) (W : World) (l : Nat) (o o' : Obj) (hl : w.heap.size ≤ l) (_ : W.heap[l]? = some o) (_ : o.isCells = false) (_ : o.isWalk = false) : KeepX n₀ g W (W.putObj l o') :=
  ⟨by simp, fun i hi _ => World.putObj_heap_other (by omega)⟩
theorem StepsAt.keepX {w w' : World} {a : Option Addr} {b o n₀ g : Nat} {l : List Stp} (h : StepsAt w a b o l) (hb : KeepX n₀ g w w') (hB : l ≠ [] → b < n₀ ∧ b ≠ g) : StepsAt w' a b o l where
  here := h.here
  lt hl := Nat.lt_of_lt_of_le (h.lt hl) hb.size
  cell i s hi j v hv := by
    have hne : l ≠ [] := by intro e; subst e; simp at hi
    rw [hb.cell (p := ⟨b, o + i * 7 + j, none⟩) (hB hne).1 (hB hne).2]
    exact h.cell i s hi j v hv

abbrev encA {l : List Stp} (x : El l) : Array Value := #[.int .i64 (x.1.1 : Int), x.1.2.val]

set_option maxRecDepth 100000 in
set_option maxHeartbeats 2000000 in
theorem all1_in (n : Nat) (hn : 1 ≤ n) (lp Bs n₀ b0 o cap : Nat) (a : Option Addr) (l : List Stp) (hl : l.length ≤ 1048576) (gr : Nat) (hBs : Bs < n₀ ∧ Bs ≠ gr) (hb0 : l ≠ [] → b0 < n₀ ∧ b0 ≠ gr) (J Jx : List (El l) → World → Prop) (hJ : ∀ s A A', J s A → A.grownBy A' none → J s A')
    (hY : ∀ pre x W, J pre W → pre.length < l.length → YieldAt Fence.wide (n - 1) Tryz.prog lp (encA x) W fun e W' =>
      (e = .returned (.bool true) ∧ J (pre ++ [x]) W' ∧ KeepX n₀ gr W W') ∨ (e = .returned (.bool false) ∧ Jx (pre ++ [x]) W'))
    (W : World) (hn₀ : n₀ ≤ W.heap.size) (hc : W.cell? ⟨Bs, 0, none⟩ = some (.slice a l.length cap)) (hs : StepsAt W a b0 o l) (h0 : J [] W) :
    CallsIn Fence.wide n Tryz.prog 96 #[.func (.yield lp) #[] #[], .pointer (some ⟨Bs, 0, none⟩)] W fun e W' => (∃ v, e = .returned v) ∧
      ((∃ ys, ys = allE l l.length ∧ J ys W') ∨ (∃ pre, (∃ k, k ≤ l.length ∧ pre = allE l k) ∧ Jx pre W')) := by
  refine callsIn_of_wp Tryz.func96 rfl trivial ?_ rfl
  simp only [Tryz.ntmps96, List.size_toArray, List.length_cons, List.length_nil, Nat.reduceAdd, Nat.reduceSub, Array.replicate_succ, Array.replicate_zero, List.push_toArray, List.append_toArray, List.nil_append, List.cons_append]
  gi_wp2
  gi_loopw [7] (fun i wr => ∃ k : Nat, k ≤ l.length ∧ i = .int .i64 (k : Int) ∧ J (allE l k) wr ∧ KeepX n₀ gr W wr) (fun i _ => l.length - (intOf i).toNat)
  case atStart => exact ⟨0, Nat.zero_le _, rfl, h0, KeepX.refl _ _ _⟩
  case round =>
    obtain ⟨k, hk, rfl, hJs, hnx⟩ := hrel
    have hcx := (hnx.cell (p := ⟨Bs, 0, none⟩) hBs.1 hBs.2).trans hc
    by_cases hlt : k < l.length
    · obtain ⟨t, htk⟩ : ∃ t, l[k]? = some t := ⟨l[k], List.getElem?_eq_getElem hlt⟩
      have hne : l ≠ [] := by intro e; subst e; simp at hlt
      obtain rfl := hs.here hne
      have hs' := hs.keepX hnx hb0
      obtain ⟨d0, d1, d2, d3, d4, d5, d6⟩ := hs'.seven htk
      have HP : Hid (allE l (k + 1) = allE l k ++ [⟨(k, t), htk⟩]) := allE_succ htk
      have hga : wr.grownBy (wr.alloc (.cells #[.int .i64 t.x, .int .i64 t.y, .int .i64 t.lo, .int .i64 t.hi, .int .i64 t.fr, .int .i64 t.by_, .bool t.ho] 44)) none :=
        ⟨rfl, rfl, rfl, by simp, fun j hj _ => Below.heap_alloc wr _ j hj⟩
      have hba : KeepX n₀ gr W (wr.alloc (.cells #[.int .i64 t.x, .int .i64 t.y, .int .i64 t.lo, .int .i64 t.hi, .int .i64 t.fr, .int .i64 t.by_, .bool t.ho] 44)) := hnx.trans ⟨by simp, fun i hi _ => Below.heap_alloc wr _ i (by have := hnx.size; omega)⟩
      obtain ⟨fn, tmps, assign, body, hy, hR⟩ := hY _ ⟨(k, t), htk⟩ _ (hJ _ _ _ hJs hga) (by rw [allE_length l k hk]; omega)
      dsimp only [encA] at hy
      have hR' := hR.mono (R' := fun e W' => ∃ bb : Bool, e = .returned (.bool bb) ∧ ((bb = true ∧ J (allE l k ++ [⟨(k, t), htk⟩]) W' ∧ KeepX n₀ gr (wr.alloc (.cells #[.int .i64 t.x, .int .i64 t.y, .int .i64 t.lo, .int .i64 t.hi, .int .i64 t.fr, .int .i64 t.by_, .bool t.ho] 44)) W') ∨ (bb = false ∧ Jx (allE l k ++ [⟨(k, t), htk⟩]) W'))) (by
        rintro e W' (⟨h1, h2, h3⟩ | ⟨h1, h2⟩)
        · exact ⟨true, h1, .inl ⟨rfl, h2, h3⟩⟩
        · exact ⟨false, h1, .inr ⟨rfl, h2⟩⟩)
      clear hs' hY hR
      have k0 : (0 : Int) ≤ (k : Int) := by omega
      have k1 : (k : Int) < (l.length : Int) := by omega
      gi_wp2_with (refine hR'.mono ?_; rintro e W3 ⟨bb, rfl, hor⟩)
      all_goals rename_i hbb
      · refine bodyPost_ret (results_none rfl _ _ _) rfl ?_
        rcases hor with ⟨rfl, hJ3, hk3⟩ | ⟨rfl, hJx3⟩
        · cases hbb
        · exact ⟨⟨_, rfl⟩, .inr ⟨_, ⟨k + 1, by omega, HP.out.symm⟩, hJx3⟩⟩
      · rcases hor with ⟨rfl, hJ3, hk3⟩ | ⟨rfl, hJx3⟩
        · exact ⟨⟨k + 1, by omega, by go_num, by rw [HP.out]; exact hJ3, hba.trans hk3⟩, by simp [intOf]; omega⟩
        · cases hbb
    · obtain rfl : k = l.length := by omega
      gi_wp2
      go_end0
      exact ⟨⟨_, rfl⟩, .inl ⟨_, rfl, hJs⟩⟩
set_option maxRecDepth 100000 in
set_option maxHeartbeats 2000000 in
theorem back1_in (n : Nat) (hn : 1 ≤ n) (lp Bs n₀ b0 o cap : Nat) (a : Option Addr) (l : List Stp) (hl : l.length ≤ 1048576) (gr : Nat) (hBs : Bs < n₀ ∧ Bs ≠ gr) (hb0 : l ≠ [] → b0 < n₀ ∧ b0 ≠ gr) (J Jx : List (El l) → World → Prop)
    (hY : ∀ pre x W, J pre W → pre.length < l.length → YieldAt Fence.wide (n - 1) Tryz.prog lp (encA x) W fun e W' =>
      (e = .returned (.bool true) ∧ J (pre ++ [x]) W' ∧ KeepX n₀ gr W W') ∨ (e = .returned (.bool false) ∧ Jx (pre ++ [x]) W'))
    (W : World) (hc : W.cell? ⟨Bs, 0, none⟩ = some (.slice a l.length cap)) (hs : StepsAt W a b0 o l) (h0 : J [] W) :
    CallsIn Fence.wide n Tryz.prog 98 #[.func (.yield lp) #[] #[], .pointer (some ⟨Bs, 0, none⟩)] W fun e W' => (∃ v, e = .returned v) ∧
      ((∃ ys, ys = backE l l.length ∧ J ys W') ∨ (∃ pre, (∃ k, k ≤ l.length ∧ pre = backE l k) ∧ Jx pre W')) := by
  refine callsIn_of_wp Tryz.func98 rfl trivial ?_ rfl
  simp only [Tryz.ntmps98, List.size_toArray, List.length_cons, List.length_nil, Nat.reduceAdd, Nat.reduceSub, Array.replicate_succ, Array.replicate_zero, List.push_toArray, List.append_toArray, List.nil_append, List.cons_append]
  gi_wp2
  gi_loopw [3] (fun i wr => ∃ k : Nat, k ≤ l.length ∧ i = .int .i64 (((l.length - k : Nat) : Int) - 1) ∧ J (backE l k) wr ∧ KeepX n₀ gr W wr) (fun i _ => (intOf i + 1).toNat)
  case atStart => exact ⟨0, Nat.zero_le _, by rw [Nat.sub_zero], h0, KeepX.refl _ _ _⟩
  case round =>
    obtain ⟨k, hk, rfl, hJs, hnx⟩ := hrel
    have hcx := (hnx.cell (p := ⟨Bs, 0, none⟩) hBs.1 hBs.2).trans hc
    by_cases hlt : k < l.length
    · obtain ⟨t, htk⟩ : ∃ t, l[l.length - 1 - k]? = some t := ⟨l[l.length - 1 - k], List.getElem?_eq_getElem (by omega)⟩
      have hne : l ≠ [] := by intro e; subst e; simp at hlt
      obtain rfl := hs.here hne
      have hs' := hs.keepX hnx hb0
      obtain ⟨m, hm, hm2⟩ : ∃ m, l.length - 1 - k = m ∧ l.length - k = m + 1 := ⟨l.length - 1 - k, rfl, by omega⟩
      rw [hm] at htk
      have e0 : ((l.length - k : Nat) : Int) - 1 = (m : Int) := by omega
      rw [e0]
      obtain ⟨d0, d1, d2, d3, d4, d5, d6⟩ := hs'.seven htk
      have HP : Hid (backE l (k + 1) = backE l k ++ [⟨(m, t), htk⟩]) := backE_succ hm htk
      obtain ⟨fn, tmps, assign, body, hy, hR⟩ := hY _ ⟨(m, t), htk⟩ wr hJs (by rw [backE_length l k hk]; omega)
      dsimp only [encA] at hy
      have hR' := hR.mono (R' := fun e W' => ∃ bb : Bool, e = .returned (.bool bb) ∧ ((bb = true ∧ J (backE l k ++ [⟨(m, t), htk⟩]) W' ∧ KeepX n₀ gr wr W') ∨ (bb = false ∧ Jx (backE l k ++ [⟨(m, t), htk⟩]) W'))) (by
        rintro e W' (⟨h1, h2, h3⟩ | ⟨h1, h2⟩)
        · exact ⟨true, h1, .inl ⟨rfl, h2, h3⟩⟩
        · exact ⟨false, h1, .inr ⟨rfl, h2⟩⟩)
      clear hs' hY hR
      have k0 : (0 : Int) ≤ (m : Int) := by omega
      have k1 : (m : Int) < (l.length : Int) := by omega
      gi_wp2_with (refine hR'.mono ?_; rintro e W3 ⟨bb, rfl, hor⟩)
      all_goals rename_i hbb
      · refine bodyPost_ret (results_none rfl _ _ _) rfl ?_
        rcases hor with ⟨rfl, hJ3, hk3⟩ | ⟨rfl, hJx3⟩
        · cases hbb
        · exact ⟨⟨_, rfl⟩, .inr ⟨_, ⟨k + 1, by omega, HP.out.symm⟩, hJx3⟩⟩
      · rcases hor with ⟨rfl, hJ3, hk3⟩ | ⟨rfl, hJx3⟩
        · exact ⟨⟨k + 1, by omega, by rw [show l.length - (k + 1) = m by omega], by rw [HP.out]; exact hJ3, hnx.trans hk3⟩, by simp [intOf]⟩
        · cases hbb
    · obtain rfl : k = l.length := by omega
      rw [Nat.sub_self]
      gi_wp2
      go_end0
      exact ⟨⟨_, rfl⟩, .inl ⟨_, rfl, hJs⟩⟩

theorem all_any (a : Option Addr) (len cap : Nat) (w : World) :
    Calls Tryz.prog 45 #[.slice a len cap] w fun e w' => e = .returned (.func (.func 96) #[] #[.pointer (some ⟨w.heap.size, 0, none⟩)]) ∧ w' = w.alloc (.cells #[.slice a len cap] 25) := by
  go_enter Tryz.func45, Tryz.ntmps45
  go_wp2
  go_ret
  exact ⟨rfl, rfl⟩
theorem backw_any (a : Option Addr) (len cap : Nat) (w : World) :
    Calls Tryz.prog 47 #[.slice a len cap] w fun e w' => e = .returned (.func (.func 98) #[] #[.pointer (some ⟨w.heap.size, 0, none⟩)]) ∧ w' = w.alloc (.cells #[.slice a len cap] 25) := by
  go_enter Tryz.func47, Tryz.ntmps47
  go_wp2
  go_ret
  exact ⟨rfl, rfl⟩

theorem all_stops (n : Nat) (hn : 1 ≤ n) (Bs n₀ b0 o cap gr : Nat) (a : Option Addr) (l : List Stp) (hl : l.length ≤ 1048576) (w : World) (hBs : Bs < n₀ ∧ Bs ≠ gr) (hn₀ : n₀ ≤ w.heap.size)
    (hc : w.cell? ⟨Bs, 0, none⟩ = some (.slice a l.length cap)) (hs : StepsAt w a b0 o l) (hb0 : l ≠ [] → b0 < n₀ ∧ b0 ≠ gr) :
    SeqStopsK Fence.wide n Tryz.prog 96 #[.pointer (some ⟨Bs, 0, none⟩)] encA (KeepX n₀ gr) (fun ys => ys = allE l l.length) (fun pre => ∃ k, k ≤ l.length ∧ pre = allE l k) l.length w := fun lp J Jx W hW hJ _ hY h0 =>
  all1_in n hn lp Bs n₀ b0 o cap a l hl gr hBs hb0 J Jx (fun s A A' h hg => hJ s A A' none h hg (fun r e => by cases e)) hY W (Nat.le_trans hn₀ hW.size)
    ((hW.cell (p := ⟨Bs, 0, none⟩) (Nat.lt_of_lt_of_le hBs.1 hn₀)).trans hc) (hs.below hW (fun h => Nat.lt_of_lt_of_le (hb0 h).1 hn₀)) h0
theorem back_stops (n : Nat) (hn : 1 ≤ n) (Bs n₀ b0 o cap gr : Nat) (a : Option Addr) (l : List Stp) (hl : l.length ≤ 1048576) (w : World) (hBs : Bs < n₀ ∧ Bs ≠ gr) (hn₀ : n₀ ≤ w.heap.size)
    (hc : w.cell? ⟨Bs, 0, none⟩ = some (.slice a l.length cap)) (hs : StepsAt w a b0 o l) (hb0 : l ≠ [] → b0 < n₀ ∧ b0 ≠ gr) :
    SeqStopsK Fence.wide n Tryz.prog 98 #[.pointer (some ⟨Bs, 0, none⟩)] encA (KeepX n₀ gr) (fun ys => ys = backE l l.length) (fun pre => ∃ k, k ≤ l.length ∧ pre = backE l k) l.length w := fun lp J Jx W hW _ _ hY h0 =>
  back1_in n hn lp Bs n₀ b0 o cap a l hl gr hBs hb0 J Jx hY W
    ((hW.cell (p := ⟨Bs, 0, none⟩) (Nat.lt_of_lt_of_le hBs.1 hn₀)).trans hc) (hs.below hW (fun h => Nat.lt_of_lt_of_le (hb0 h).1 hn₀)) h0
end Go.Proofs.YtijcdikekgmfoaaGreatDoor
