/- Joined texts: PbMeetS2, PbPairs, PbBegin, PbClose, PbClose2, PbMeetI, PbRound, PbMeetI2, PbMeetAny, LkMeetsN, LkOthers, LkData, SpanSpec2, LkCan, SharedData, LkNone, LkHeldOk, LkSeq, PbSkyD0. -/
import Derived.RangeFuncNested
import Derived.RangeFuncBound
import Derived.RangeFuncCalls
import Derived.RangeFuncLeaves
import Derived.Shelf.Abstract
import Derived.Shelf.RegionOpen
import Derived.WalkKit
import Derived.OwnWalkIn
import Derived.TacticsInMore
import Derived.LoopNIn
import Derived.LoopIn
import Derived.Stop.RegionWithIn
import Derived.Deep.RegionHeld3
import Derived.OrdersIn
import Derived.WalkSpells
import Derived.Laws.StructEq
import Derived.Test.YtgjleeamhkolhaaGreatDoorRows
import Derived.Test.YtgjleeamhkolhaaGreatDoorPbMeetS
import Derived.Test.YtgjleeamhkolhaaGreatDoorPbMeetD
import Derived.Test.YtgjleeamhkolhaaGreatDoorPbTubeI
import Derived.Test.YtgjleeamhkolhaaGreatDoorPbImpl
import Derived.Test.YtgjleeamhkolhaaGreatDoorJ08
import Derived.Test.YtgjleeamhkolhaaGreatDoorOwnMore
import Derived.Test.YtgjleeamhkolhaaGreatDoorCls
import Derived.Test.YtgjleeamhkolhaaGreatDoorLkMeets
import Derived.Test.YtgjleeamhkolhaaGreatDoorPbBel
import Derived.Test.YtgjleeamhkolhaaGreatDoorPbName
import Derived.Test.YtgjleeamhkolhaaGreatDoorJ05
import Derived.Test.YtgjleeamhkolhaaGreatDoorLkPt
import Derived.Test.YtgjleeamhkolhaaGreatDoorSpanMath
import Derived.Test.YtgjleeamhkolhaaGreatDoorSpanSpec
import Derived.Test.YtgjleeamhkolhaaGreatDoorPbName2
import Derived.Test.YtgjleeamhkolhaaGreatDoorJ02
import Derived.Test.YtgjleeamhkolhaaGreatDoorSpec
import Derived.Test.YtgjleeamhkolhaaGreatDoorData
import Derived.Test.YtgjleeamhkolhaaGreatDoorJ04
import Derived.Test.YtgjleeamhkolhaaGreatDoorPbTubeS
namespace Go.Proofs.YtgjleeamhkolhaaGreatDoor
open Go.RowKit

theorem tubeB_all {t : Tb} (h : tubeB t = true) : t.l.all boxB = true := by unfold tubeB at h; simp at h; simpa using h.2
theorem meetTB_no {t u : Tb} (h : tubeB t = false ∨ tubeB u = false) : meetTB t u = none := by unfold meetTB; rcases h with h | h <;> simp [h]
theorem meetTB_yes {t u : Tb} (h : tubeB t = true) (h' : tubeB u = true) : meetTB t u = meetOf t.l u.l (pairsN u.l.length t.l.length) := by unfold meetTB; simp [h, h']

/-- The blocks of the call: the two tubes, the answer. -/
structure MeetR (w wr : World) (t u : Tb) : Prop where
  both : TwoT w wr t u
  res : wr.heap[w.heap.size + 1 + 1]? = some (.cells #[.string ⟨#[]⟩, .string ⟨#[]⟩, .int .i64 0, .int .i64 0, .int .i64 0] 127 (0, 0))
theorem MeetR.keep {w wr w2 : World} {t u : Tb} (h : MeetR w wr t u) (hb : Below wr.heap.size wr w2) : MeetR w w2 t u :=
  ⟨h.both.keep hb, (hb.block _ (lt_of_block h.res)).trans h.res⟩
theorem MeetR.new (w : World) (t u : Tb) : MeetR w (((w.alloc (.cells #[.string t.nm, .slice t.a t.l.length t.cap] 132)).alloc (.cells #[.string u.nm, .slice u.a u.l.length u.cap] 132)).alloc (.cells #[.string ⟨#[]⟩, .string ⟨#[]⟩, .int .i64 0, .int .i64 0, .int .i64 0] 127)) t u := by
  refine ⟨(TwoT.new w t u 132).keep (bel1 _), ?_⟩
  have h1 := heap_alloc_new ((w.alloc (.cells #[.string t.nm, .slice t.a t.l.length t.cap] 132)).alloc (.cells #[.string u.nm, .slice u.a u.l.length u.cap] 132)) (.cells #[.string ⟨#[]⟩, .string ⟨#[]⟩, .int .i64 0, .int .i64 0, .int .i64 0] 127)
  rwa [World.size_alloc, World.size_alloc] at h1

set_option maxHeartbeats 4000000 in
set_option maxRecDepth 20000 in
theorem meetS_any (t u : Tb) (w : World) (hl : t.l.length ≤ 1048576) (hm : u.l.length ≤ 1048576) (ht : TubeAt w t) (hu : TubeAt w u) :
    Calls Tryz.prog 85 #[t.val, u.val] w fun e w' => e = .returned (.tuple #[.agg (clashC t.nm u.nm (meetTB t u)), .bool (meetTB t u).isSome]) ∧ Below w.heap.size w w' := by
  have M0 := MeetR.new w t u
  cases h1 : tubeB t with
  | false =>
    have G : Hid (meetTB t u = none) := meetTB_no (.inl h1)
    have H1 : Hid (tubeB t = false) := h1
    clear h1
    go_enter Tryz.func85, Tryz.ntmps85
    go_wp2_with fail
    refine (tubeOkS_val t false _ hl (ht.below (bel3 _ _ _)) H1.out).mono ?_
    rintro e w1 ⟨rfl, hb1⟩
    have M1 := M0.keep hb1
    obtain ⟨r0, r1, r2, r3, r4, rf⟩ := blk5 M1.res
    have HB := M1.both.old
    clear M0 hb1
    go_wp2
    refine bodyPost_ret (v := .tuple #[.agg #[.string ⟨#[]⟩, .string ⟨#[]⟩, .int .i64 0, .int .i64 0, .int .i64 0], .bool false]) (by simp [results, Tryz.results85, go_sem, *]) rfl ⟨by rw [G.out]; rfl, ?_⟩
    iterate 5 (refine Below.setCell ?_ (by simp; omega) _)
    exact HB
  | true =>
    have H1 : Hid (tubeB t = true) := h1
    cases h2 : tubeB u with
    | false =>
      have G : Hid (meetTB t u = none) := meetTB_no (.inr h2)
      have H2 : Hid (tubeB u = false) := h2
      clear h1 h2
      go_enter Tryz.func85, Tryz.ntmps85
      go_wp2_with fail
      refine (tubeOkS_val t true _ hl (ht.below (bel3 _ _ _)) H1.out).mono ?_
      rintro e w1 ⟨rfl, hb1⟩
      have M1 := M0.keep hb1
      have c0 := M1.both.two.c0
      have c1 := M1.both.two.c1
      clear M0 hb1
      go_wp2_with fail
      refine (tubeOkS_val u false _ hm (hu.below M1.both.old) H2.out).mono ?_
      rintro e w2 ⟨rfl, hb2⟩
      have M2 := M1.keep hb2
      obtain ⟨r0, r1, r2, r3, r4, rf⟩ := blk5 M2.res
      have HB := M2.both.old
      clear M1 hb2 c0 c1
      go_wp2
      refine bodyPost_ret (v := .tuple #[.agg #[.string ⟨#[]⟩, .string ⟨#[]⟩, .int .i64 0, .int .i64 0, .int .i64 0], .bool false]) (by simp [results, Tryz.results85, go_sem, *]) rfl ⟨by rw [G.out]; rfl, ?_⟩
      iterate 5 (refine Below.setCell ?_ (by simp; omega) _)
      exact HB
    | true =>
      have G : Hid (meetTB t u = meetOf t.l u.l (pairsN u.l.length t.l.length)) := meetTB_yes h1 h2
      have H2 : Hid (tubeB u = true) := h2
      clear h1 h2
      go_enter Tryz.func85, Tryz.ntmps85
      go_wp2_with fail
      refine (tubeOkS_val t true _ hl (ht.below (bel3 _ _ _)) H1.out).mono ?_
      rintro e w1 ⟨rfl, hb1⟩
      have M1 := M0.keep hb1
      have c0 := M1.both.two.c0
      have c1 := M1.both.two.c1
      clear M0 hb1
      go_wp2_with fail
      refine (tubeOkS_val u true _ hm (hu.below M1.both.old) H2.out).mono ?_
      rintro e w2 ⟨rfl, hb2⟩
      have M2 := M1.keep hb2
      clear M1 hb2 c0 c1
      have c0 := M2.both.one.c0
      have c1 := M2.both.one.c1
      have d0 := M2.both.two.c0
      have d1 := M2.both.two.c1
      go_wp2_with fail
      refine (meetLS_any t.nm u.nm t.a u.a t.b t.o t.cap u.b u.o u.cap t.l u.l _ hl hm (ht.below M2.both.old).at_ (hu.below M2.both.old).at_ (tubeB_all H1.out) (tubeB_all H2.out)).mono ?_
      rintro e w3 ⟨rfl, hb3⟩
      have M3 := M2.keep hb3
      obtain ⟨r0, r1, r2, r3, r4, rf⟩ := blk5 M3.res
      have HB := M3.both.old
      clear M2 hb3 c0 c1 d0 d1
      obtain ⟨st, hst⟩ : ∃ st, meetOf t.l u.l (pairsN u.l.length t.l.length) = st := ⟨_, rfl⟩
      have HST : Hid (meetTB t u = st) := G.out.trans hst
      rw [hst]
      clear hst
      cases st with
      | none =>
        simp only [clashC, Option.isSome]
        go_wp2
        refine bodyPost_ret (v := .tuple #[.agg #[.string ⟨#[]⟩, .string ⟨#[]⟩, .int .i64 0, .int .i64 0, .int .i64 0], .bool false]) (by simp [results, Tryz.results85, go_sem, *]) rfl ⟨by rw [HST.out]; rfl, ?_⟩
        iterate 5 (refine Below.setCell ?_ (by simp; omega) _)
        exact HB
      | some z =>
        obtain ⟨zt, zi, zj⟩ := z
        simp only [clashC, Option.isSome]
        go_wp2
        refine bodyPost_ret (v := .tuple #[.agg #[.string t.nm, .string u.nm, .int .i64 zt, .int .i64 zi, .int .i64 zj], .bool true]) (by simp [results, Tryz.results85, go_sem, *]) rfl ⟨by rw [HST.out]; rfl, ?_⟩
        iterate 5 (refine Below.setCell ?_ (by simp; omega) _)
        exact HB
end Go.Proofs.YtgjleeamhkolhaaGreatDoor

namespace Go.Proofs.YtgjleeamhkolhaaGreatDoor
open Go.RowKit Go.Shelf
attribute [local go_sem] Oper.semAt_some

/-- A pair of places. -/
abbrev Pr (N M : Nat) := Fin N × Fin M
abbrev encI {N M : Nat} (x : Pr N M) : Array Value := #[.int .i64 x.1.val, .int .i64 x.2.val]
abbrev vp {N M : Nat} (x : Pr N M) : Nat × Nat := (x.1.val, x.2.val)

/-- The two blocks of the iterator lie as they lay. -/
def KeepP (Ba Bb : Nat) (A B : World) : Prop := B.heap[Ba]? = A.heap[Ba]? ∧ B.heap[Bb]? = A.heap[Bb]?
theorem KeepP.refl (Ba Bb : Nat) (A : World) : KeepP Ba Bb A A := ⟨rfl, rfl⟩
theorem KeepP.trans {Ba Bb : Nat} {A B C : World} (h : KeepP Ba Bb A B) (k : KeepP Ba Bb B C) : KeepP Ba Bb A C := ⟨k.1.trans h.1, k.2.trans h.2⟩
theorem KeepP.putObj {Ba Bb : Nat} {w : World} (ha : Ba < w.heap.size) (hb : Bb < w.heap.size) (W : World) (l : Nat) (o o' : Obj) (hl : w.heap.size ≤ l) (_ : W.heap[l]? = some o) (_ : o.isCells = false) (_ : o.isWalk = false) : KeepP Ba Bb W (W.putObj l o') :=
  ⟨World.putObj_heap_other (by omega), World.putObj_heap_other (by omega)⟩
theorem KeepP.below {Ba Bb : Nat} {A B : World} (ha : Ba < A.heap.size) (hb : Bb < A.heap.size) (h : Below A.heap.size A B) : KeepP Ba Bb A B := ⟨h.block Ba ha, h.block Bb hb⟩
theorem KeepP.set {Ba Bb : Nat} {A B : World} (h : KeepP Ba Bb A B) {p : Addr} (ha : p.block ≠ Ba) (hb : p.block ≠ Bb) (v : Value) : KeepP Ba Bb A (B.setCell p v) :=
  ⟨(heap_setCell_other B p Ba v (fun e => ha e.symm)).trans h.1, (heap_setCell_other B p Bb v (fun e => hb e.symm)).trans h.2⟩
theorem pairsJ_length (k n j : Nat) : (pairsJ k n j).length = n * k + j := by simp [pairsJ, pairsN_length]
theorem pairsJ_short {k n j N : Nat} (hn : n < N) (hj : j < k) : (pairsJ k n j).length < N * k := by
  rw [pairsJ_length]
  have : (n + 1) * k ≤ N * k := Nat.mul_le_mul_right k hn
  rw [Nat.succ_mul] at this
  omega
theorem pairsN_pre {k n N : Nat} (h : n ≤ N) : ∃ post, pairsN k N = pairsN k n ++ post := by
  induction N with
  | zero => obtain rfl : n = 0 := by omega
            exact ⟨[], rfl⟩
  | succ N ih =>
    by_cases hn : n = N + 1
    · subst hn; exact ⟨[], by simp⟩
    · obtain ⟨post, hp⟩ := ih (by omega)
      exact ⟨post ++ (List.range k).map (fun j => (N, j)), by rw [← List.append_assoc, ← hp]; rfl⟩
theorem pairsJ_pre {k n j N : Nat} (hn : n < N) (hj : j ≤ k) : ∃ post, pairsN k N = pairsJ k n j ++ post := by
  obtain ⟨p1, h1⟩ := pairsN_pre (k := k) (n := n + 1) (N := N) hn
  refine ⟨((List.range (k - j)).map (fun i => (n, j + i))) ++ p1, ?_⟩
  rw [h1, ← List.append_assoc]
  congr 1
  show pairsN k n ++ (List.range k).map (fun i => (n, i)) = _
  unfold pairsJ
  rw [List.append_assoc]
  congr 1
  obtain ⟨d, rfl⟩ : ∃ d, k = j + d := ⟨k - j, by omega⟩
  rw [Nat.add_sub_cancel_left, List.range_add, List.map_append, List.map_map]
  rfl

set_option maxRecDepth 100000 in
set_option maxHeartbeats 4000000 in
theorem bp1_in (n : Nat) (hn : 1 ≤ n) (lp Ba Bb N M ca cb : Nat) (a a' : Option Addr) (hN : N ≤ 1048576) (hM : M ≤ 1048576) (J Jx : List (Pr N M) → World → Prop)
    (hY : ∀ pre x W, J pre W → pre.length < N * M → YieldAt Fence.wide (n - 1) Tryz.prog lp (encI x) W fun e W' =>
      (e = .returned (.bool true) ∧ J (pre ++ [x]) W' ∧ KeepP Ba Bb W W') ∨ (e = .returned (.bool false) ∧ Jx (pre ++ [x]) W'))
    (W : World) (hc : W.cell? ⟨Ba, 0, none⟩ = some (.slice a N ca)) (hc' : W.cell? ⟨Bb, 0, none⟩ = some (.slice a' M cb)) (h0 : J [] W) :
    CallsIn Fence.wide n Tryz.prog 168 #[.func (.yield lp) #[] #[], .pointer (some ⟨Ba, 0, none⟩), .pointer (some ⟨Bb, 0, none⟩)] W fun e W' => (∃ v, e = .returned v) ∧
      ((∃ ys, ys.map vp = pairsN M N ∧ J ys W') ∨ (∃ pre : List (Pr N M), (∃ post, pairsN M N = pre.map vp ++ post) ∧ Jx pre W')) := by
  refine callsIn_of_wp Tryz.func168 rfl trivial ?_ rfl
  simp only [Tryz.ntmps168, List.size_toArray, List.length_cons, List.length_nil, Nat.reduceAdd, Nat.reduceSub, Array.replicate_succ, Array.replicate_zero, List.push_toArray, List.append_toArray, List.nil_append, List.cons_append]
  gi_wp2
  gi_loopw [8] (fun i wr => ∃ k : Nat, k ≤ N ∧ i = .int .i64 k ∧ (∃ pre : List (Pr N M), pre.map vp = pairsN M k ∧ J pre wr) ∧ KeepP Ba Bb W wr) (fun i _ => N - (intOf i).toNat)
  case atStart => exact ⟨0, Nat.zero_le _, rfl, ⟨[], rfl, h0⟩, KeepP.refl _ _ _⟩
  case round =>
    obtain ⟨k, hk, rfl, hJs, hnx⟩ := hrel
    by_cases hlt : k < N
    · have hcx' := (World.cell?_of_block (a := ⟨Bb, 0, none⟩) hnx.2).trans hc'
      have k0 : (0 : Int) ≤ (k : Int) := by omega
      have k1 : (k : Int) < (N : Int) := by omega
      gi_wp2
      gi_loopw [13] (fun i wr => ∃ j : Nat, j ≤ M ∧ i = .int .i64 j ∧ (∃ pre : List (Pr N M), pre.map vp = pairsJ M k j ∧ J pre wr) ∧ KeepP Ba Bb W wr) (fun i _ => M - (intOf i).toNat)
      case atStart => exact ⟨0, Nat.zero_le _, rfl, by rw [pairsJ_zero]; exact hJs, hnx⟩
      case round =>
        clear hJs hnx hcx'
        obtain ⟨j, hj, rfl, hJs, hnx⟩ := hrel
        by_cases hltj : j < M
        · obtain ⟨pre, hpre, hJs⟩ := hJs
          obtain ⟨fn, tmps, assign, body, hy, hR⟩ := hY pre (⟨k, hlt⟩, ⟨j, hltj⟩) wr hJs (by have := pairsJ_short hlt hltj; rw [← hpre, List.length_map] at this; exact this)
          have hnext : (pre ++ [((⟨k, hlt⟩, ⟨j, hltj⟩) : Pr N M)]).map vp = pairsJ M k (j + 1) := by rw [List.map_append, hpre, pairsJ_succ]; rfl
          have HX : Hid ((pre ++ [((⟨k, hlt⟩, ⟨j, hltj⟩) : Pr N M)]).map vp = pairsJ M k (j + 1)) := hnext
          clear hnext
          dsimp only [encI] at hy
          clear hY
          have j0 : (0 : Int) ≤ (j : Int) := by omega
          have j1 : (j : Int) < (M : Int) := by omega
          gi_wp2_with fail
          refine hR.mono ?_
          rintro e W3 (⟨rfl, hJ3, hk3⟩ | ⟨rfl, hJx3⟩)
          · gi_wp2
            go_roundw
            case rel => exact ⟨j + 1, by omega, by go_num, ⟨_, HX.out, hJ3⟩, hnx.trans hk3⟩
            case measure => simp [intOf]; omega
          · gi_wp2
            refine bodyPost_ret (results_none rfl _ _ _) rfl ?_
            exact ⟨⟨_, rfl⟩, .inr ⟨_, by rw [HX.out]; exact pairsJ_pre hlt (by omega), hJx3⟩⟩
        · obtain rfl : j = M := by omega
          gi_wp2
          go_roundw
          case rel => exact ⟨k + 1, by omega, by go_num, by rw [← pairsJ_all]; exact hJs, hnx⟩
          case measure => simp [intOf]; omega
    · obtain rfl : k = N := by omega
      gi_wp2
      go_end0
      obtain ⟨pre, hpre, hJs⟩ := hJs
      exact ⟨⟨_, rfl⟩, .inl ⟨_, hpre, hJs⟩⟩

set_option maxHeartbeats 1000000 in
theorem bp_in (n : Nat) (a a' : Option Addr) (N M ca cb : Nat) (w : World) :
    CallsIn Fence.wide n Tryz.prog 153 #[.slice a N ca, .slice a' M cb] w fun e w' => e = .returned (.func (.func 168) #[] #[.pointer (some ⟨w.heap.size, 0, none⟩), .pointer (some ⟨w.heap.size + 1, 0, none⟩)]) ∧ w' = (w.alloc (.cells #[.slice a N ca] 130)).alloc (.cells #[.slice a' M cb] 130) := by
  refine callsIn_of_wp Tryz.func153 rfl trivial ?_ rfl
  simp only [Tryz.ntmps153, List.size_toArray, List.length_cons, List.length_nil, Nat.reduceAdd, Nat.reduceSub, Array.replicate_succ, Array.replicate_zero, List.push_toArray, List.append_toArray, List.nil_append, List.cons_append]
  gi_wp2
  go_ret
  exact ⟨rfl, rfl⟩

theorem bp_stops (n : Nat) (hn : 1 ≤ n) (Ba Bb N M ca cb : Nat) (a a' : Option Addr) (hN : N ≤ 1048576) (hM : M ≤ 1048576) (w : World) (hBa : Ba < w.heap.size) (hBb : Bb < w.heap.size)
    (hc : w.cell? ⟨Ba, 0, none⟩ = some (.slice a N ca)) (hc' : w.cell? ⟨Bb, 0, none⟩ = some (.slice a' M cb)) :
    SeqStopsK Fence.wide n Tryz.prog 168 #[.pointer (some ⟨Ba, 0, none⟩), .pointer (some ⟨Bb, 0, none⟩)] (encI (N := N) (M := M)) (KeepP Ba Bb) (fun ys => ys.map vp = pairsN M N) (fun pre => ∃ post, pairsN M N = pre.map vp ++ post) (N * M) w := fun lp J Jx W hW _ _ hY h0 =>
  bp1_in n hn lp Ba Bb N M ca cb a a' hN hM J Jx hY W ((hW.cell (p := ⟨Ba, 0, none⟩) hBa).trans hc) ((hW.cell (p := ⟨Bb, 0, none⟩) hBb).trans hc') h0
end Go.Proofs.YtgjleeamhkolhaaGreatDoor

namespace Go.Proofs.YtgjleeamhkolhaaGreatDoor
open Go.RowKit

set_option maxHeartbeats 1000000 in
theorem begin_any (a : Option Addr) (b o cap : Nat) (l : List Bx) (w : World) (hl : l.length ≤ 1048576) (hs : BoxesAt w a b o l) :
    Calls Tryz.prog 152 #[.slice a l.length cap] w fun e w' => e = .returned (.int .i64 (beginB l)) ∧ Below w.heap.size w w' := by
  go_enter Tryz.func152, Tryz.ntmps152
  go_wp2
  go_loopw [3, 8] (fun x v wr => ∃ k : Nat, k ≤ l.length ∧ v = .int .i64 k ∧ x = .int .i64 ((l.take k).foldl (fun x (s : Bx) => min x s.in_) 10001) ∧ Below w.heap.size w wr) (fun _ v _ => l.length - (intOf v).toNat)
  case atStart => exact ⟨0, Nat.zero_le _, rfl, rfl, Below.refl _ _⟩
  case round =>
    obtain ⟨k, hk, rfl, rfl, hb⟩ := hrel
    by_cases hlt : k < l.length
    · obtain ⟨s, hsk⟩ : ∃ s, l[k]? = some s := ⟨l[k], List.getElem?_eq_getElem hlt⟩
      have hne : l ≠ [] := by intro e; subst e; simp at hlt
      obtain rfl := hs.here hne
      have hbw := hs.lt hne
      obtain ⟨d0, d1, d2, d3, d4, d5⟩ := (hs.below hb (fun _ => hbw)).six hsk
      have k0 : (0 : Int) ≤ (k : Int) := by omega
      have k1 : (k : Int) < (l.length : Int) := by omega
      have HF : Hid ((l.take (k + 1)).foldl (fun x (s : Bx) => min x s.in_) 10001 = min ((l.take k).foldl (fun x (s : Bx) => min x s.in_) 10001) s.in_) := beginB_take l hsk
      clear hsk
      generalize (l.take k).foldl (fun x (s : Bx) => min x s.in_) 10001 = x at *
      rcases (show (s.in_ < x ∧ min x s.in_ = s.in_) ∨ (¬ s.in_ < x ∧ min x s.in_ = x) by omega) with ⟨h1, e1⟩ | ⟨h1, e1⟩
      all_goals
        have HE : Hid (min x s.in_ = _) := e1
        clear e1
        go_wp2
        go_roundw
        case rel => exact ⟨k + 1, by omega, by go_num, by rw [HF.out, HE.out], hb.alloc hb.size _⟩
        case measure => simp [intOf]; omega
    · obtain rfl : k = l.length := by omega
      rw [List.take_length]
      go_wp2
      go_ret
      exact ⟨rfl, hb⟩
end Go.Proofs.YtgjleeamhkolhaaGreatDoor

namespace Go.Proofs.YtgjleeamhkolhaaGreatDoor
open Go.RowKit

theorem widen_any (a b c : Int) (w : World) (ha : -100 ≤ a ∧ a ≤ 100) (hb : -100 ≤ b ∧ b ≤ 100) (hc : -100 ≤ c ∧ c ≤ 100) :
    Calls Tryz.prog 188 #[.agg #[.int .i64 a, .int .i64 b], .int .i64 c] w fun e w' => e = .returned (.agg #[.int .i64 (a - c), .int .i64 (b + c)]) ∧ Below w.heap.size w w' := by
  have w0 : IntKind.i64.wrap (a - c) = a - c := by rw [IntKind.wrap_i64]; omega
  have w2 : IntKind.i64.wrap (b + c) = b + c := by rw [IntKind.wrap_i64]; omega
  go_enter Tryz.func188, Tryz.ntmps188
  go_wp2_with fail
  refine (ofCell_any _ _ _).mono ?_
  rintro e w1 ⟨rfl, hb1⟩
  obtain ⟨hc1, hf1⟩ := old_cells hb1
  have r0 : w1.cell? ⟨w.heap.size + 1, 0, none⟩ = some (.int .i64 0) := by rw [hc1 _ _ (by simp)]; simp [go_sem]
  have r1 : w1.cell? ⟨w.heap.size + 1, 1, none⟩ = some (.int .i64 0) := by rw [hc1 _ _ (by simp)]; simp [go_sem]
  have f0 : ∀ j, w1.frozen? ⟨w.heap.size + 1, j, none⟩ = false := by intro j; rw [hf1 _ _ (by simp)]; simp [go_sem]
  have hb01 : Below w.heap.size w w1 := (bel2 _ _).trans (hb1.mono (by simp; omega))
  clear hb1 hc1 hf1
  go_wp2
  refine bodyPost_ret (v := .agg #[.int .i64 (a - c), .int .i64 (b + c)]) (by simp [results, Tryz.results188, go_sem, *]) rfl ⟨rfl, ?_⟩
  iterate 2 (refine Below.setCell ?_ (by simp) _)
  exact hb01

theorem meetsCell_any (a b c d : Int) (w : World) :
    Calls Tryz.prog 189 #[.agg #[.int .i64 a, .int .i64 b], .agg #[.int .i64 c, .int .i64 d]] w fun e w' => e = .returned (.bool (meetB a b c d)) ∧ Below w.heap.size w w' := by
  go_enter Tryz.func189, Tryz.ntmps189
  go_wp2_with fail
  refine (meetCell_any _ _ _ _ _).mono ?_
  rintro e w1 ⟨rfl, hb1⟩
  have B1 : Below w.heap.size w w1 := (bel2 _ _).trans (hb1.mono (by simp; omega))
  go_wp2_with fail
  refine (emptyCell_any _ _ _).mono ?_
  rintro e w2 ⟨rfl, hb2⟩
  go_wp2
  go_ret
  exact ⟨rfl, B1.trans (hb2.mono B1.size)⟩
theorem meetsCell_val (a b c d : Int) (v : Bool) (w : World) (hv : meetB a b c d = v) :
    Calls Tryz.prog 189 #[.agg #[.int .i64 a, .int .i64 b], .agg #[.int .i64 c, .int .i64 d]] w fun e w' => e = .returned (.bool v) ∧ Below w.heap.size w w' := by
  rw [← hv]; exact meetsCell_any a b c d w

theorem meetsLevel_any (a b c d : Int) (w : World) :
    Calls Tryz.prog 190 #[.agg #[.int .i64 a, .int .i64 b], .agg #[.int .i64 c, .int .i64 d]] w fun e w' => e = .returned (.bool (meetB a b c d)) ∧ Below w.heap.size w w' := by
  go_enter Tryz.func190, Tryz.ntmps190
  go_wp2_with fail
  refine (meetLevel_any _ _ _ _ _).mono ?_
  rintro e w1 ⟨rfl, hb1⟩
  have B1 : Below w.heap.size w w1 := (bel2 _ _).trans (hb1.mono (by simp; omega))
  go_wp2_with fail
  refine (emptyLevel_any _ _ _).mono ?_
  rintro e w2 ⟨rfl, hb2⟩
  go_wp2
  go_ret
  exact ⟨rfl, B1.trans (hb2.mono B1.size)⟩
theorem meetsLevel_val (a b c d : Int) (v : Bool) (w : World) (hv : meetB a b c d = v) :
    Calls Tryz.prog 190 #[.agg #[.int .i64 a, .int .i64 b], .agg #[.int .i64 c, .int .i64 d]] w fun e w' => e = .returned (.bool v) ∧ Below w.heap.size w w' := by
  rw [← hv]; exact meetsLevel_any a b c d w

set_option maxHeartbeats 4000000 in
theorem beside_a (x y lo hi i o x' y' lo' hi' i' o' : Int) (w : World) (hA : boxB ⟨x, y, lo, hi, i, o⟩ = true) (hB : boxB ⟨x', y', lo', hi', i', o'⟩ = true) (h1 : meetB (x - 1) (x + 1) x' x' = false) :
    Calls Tryz.prog 170 #[.agg #[.int .i64 x, .int .i64 y, .int .i64 lo, .int .i64 hi, .int .i64 i, .int .i64 o], .agg #[.int .i64 x', .int .i64 y', .int .i64 lo', .int .i64 hi', .int .i64 i', .int .i64 o']] w
      fun e w' => e = .returned (.bool (besideB ⟨x, y, lo, hi, i, o⟩ ⟨x', y', lo', hi', i', o'⟩)) ∧ Below w.heap.size w w' := by
  have ER : Hid (besideB ⟨x, y, lo, hi, i, o⟩ ⟨x', y', lo', hi', i', o'⟩ = (meetB (x - 1) (x + 1) x' x' && meetB (y - 1) (y + 1) y' y' && meetB lo hi lo' hi')) := beside_meets _ _ hA hB
  rw [boxB_iff] at hA
  simp only at hA
  have X : -100 ≤ x ∧ x ≤ 100 := by omega
  have Y : -100 ≤ y ∧ y ≤ 100 := by omega
  have O : (-100 : Int) ≤ 1 ∧ (1 : Int) ≤ 100 := by omega
  clear hA hB
  have hn := World.rangeAt_alloc (box_new w ⟨x, y, lo, hi, i, o⟩ 195) (.cells #[.int .i64 x', .int .i64 y', .int .i64 lo', .int .i64 hi', .int .i64 i', .int .i64 o'] 195)
  have hm := box_new (w.alloc (.cells #[.int .i64 x, .int .i64 y, .int .i64 lo, .int .i64 hi, .int .i64 i, .int .i64 o] 195)) ⟨x', y', lo', hi', i', o'⟩ 195
  rw [World.size_alloc] at hm
  have B2 := bel2 (w := w) (.cells #[.int .i64 x, .int .i64 y, .int .i64 lo, .int .i64 hi, .int .i64 i, .int .i64 o] 195) (.cells #[.int .i64 x', .int .i64 y', .int .i64 lo', .int .i64 hi', .int .i64 i', .int .i64 o'] 195)
  have z2 : ((w.alloc (.cells #[.int .i64 x, .int .i64 y, .int .i64 lo, .int .i64 hi, .int .i64 i, .int .i64 o] 195)).alloc (.cells #[.int .i64 x', .int .i64 y', .int .i64 lo', .int .i64 hi', .int .i64 i', .int .i64 o'] 195)).heap.size = w.heap.size + 1 + 1 := by simp
  have W1 := widen_any x x 1
  have W2 := widen_any y y 1
  go_enter Tryz.func170, Tryz.ntmps170
  go_wp2
  generalize (w.alloc (.cells #[.int .i64 x, .int .i64 y, .int .i64 lo, .int .i64 hi, .int .i64 i, .int .i64 o] 195)).alloc (.cells #[.int .i64 x', .int .i64 y', .int .i64 lo', .int .i64 hi', .int .i64 i', .int .i64 o'] 195) = W at *
  obtain ⟨q0, q1, q2, q3, q4, q5⟩ := Cls.six (by omega) hn
  obtain ⟨p0, p1, p2, p3, p4, p5⟩ := Cls.six (by omega) hm
  have qn := Cls.any W
  clear hn hm W1 W2
  refine wp_region_cls (by kernel_rfl) (by kernel_rfl) ?_
  repeat (go_big_quiet_step (first
    | (go_at_call 180; exact Calls.cls_of (xs_any _ _ _ _ _ _ _))
    | (go_at_call 182; exact Calls.cls_of (ys_any _ _ _ _ _ _ _))
    | (go_at_call 183; exact Calls.cls_of (levels_any _ _ _ _ _ _ _))
    | (go_at_call 188; exact Calls.cls_of (widen_any _ _ _ _ (by first | exact X | exact Y) (by first | exact X | exact Y) O))
    | (go_at_call 189; exact Calls.cls_of (meetsCell_val _ _ _ _ _ _ (by first | exact h1 | exact h2)))
    | (go_at_call 190; exact Calls.cls_of (meetsLevel_any _ _ _ _ _))))
  refine wpQuiet_nil ?_
  rintro _ ⟨u, rfl⟩
  clear q0 q1 q2 q3 q4 q5 p0 p1 p2 p3 p4 p5 qn
  go_wp2
  go_ret
  exact ⟨by rw [ER.out]; simp [*], B2.trans (u.same.mono B2.size)⟩

set_option maxHeartbeats 4000000 in
theorem beside_b (x y lo hi i o x' y' lo' hi' i' o' : Int) (w : World) (hA : boxB ⟨x, y, lo, hi, i, o⟩ = true) (hB : boxB ⟨x', y', lo', hi', i', o'⟩ = true) (h1 : meetB (x - 1) (x + 1) x' x' = true) (h2 : meetB (y - 1) (y + 1) y' y' = false) :
    Calls Tryz.prog 170 #[.agg #[.int .i64 x, .int .i64 y, .int .i64 lo, .int .i64 hi, .int .i64 i, .int .i64 o], .agg #[.int .i64 x', .int .i64 y', .int .i64 lo', .int .i64 hi', .int .i64 i', .int .i64 o']] w
      fun e w' => e = .returned (.bool (besideB ⟨x, y, lo, hi, i, o⟩ ⟨x', y', lo', hi', i', o'⟩)) ∧ Below w.heap.size w w' := by
  have ER : Hid (besideB ⟨x, y, lo, hi, i, o⟩ ⟨x', y', lo', hi', i', o'⟩ = (meetB (x - 1) (x + 1) x' x' && meetB (y - 1) (y + 1) y' y' && meetB lo hi lo' hi')) := beside_meets _ _ hA hB
  rw [boxB_iff] at hA
  simp only at hA
  have X : -100 ≤ x ∧ x ≤ 100 := by omega
  have Y : -100 ≤ y ∧ y ≤ 100 := by omega
  have O : (-100 : Int) ≤ 1 ∧ (1 : Int) ≤ 100 := by omega
  clear hA hB
  have hn := World.rangeAt_alloc (box_new w ⟨x, y, lo, hi, i, o⟩ 195) (.cells #[.int .i64 x', .int .i64 y', .int .i64 lo', .int .i64 hi', .int .i64 i', .int .i64 o'] 195)
  have hm := box_new (w.alloc (.cells #[.int .i64 x, .int .i64 y, .int .i64 lo, .int .i64 hi, .int .i64 i, .int .i64 o] 195)) ⟨x', y', lo', hi', i', o'⟩ 195
  rw [World.size_alloc] at hm
  have B2 := bel2 (w := w) (.cells #[.int .i64 x, .int .i64 y, .int .i64 lo, .int .i64 hi, .int .i64 i, .int .i64 o] 195) (.cells #[.int .i64 x', .int .i64 y', .int .i64 lo', .int .i64 hi', .int .i64 i', .int .i64 o'] 195)
  have z2 : ((w.alloc (.cells #[.int .i64 x, .int .i64 y, .int .i64 lo, .int .i64 hi, .int .i64 i, .int .i64 o] 195)).alloc (.cells #[.int .i64 x', .int .i64 y', .int .i64 lo', .int .i64 hi', .int .i64 i', .int .i64 o'] 195)).heap.size = w.heap.size + 1 + 1 := by simp
  have W1 := widen_any x x 1
  have W2 := widen_any y y 1
  go_enter Tryz.func170, Tryz.ntmps170
  go_wp2
  generalize (w.alloc (.cells #[.int .i64 x, .int .i64 y, .int .i64 lo, .int .i64 hi, .int .i64 i, .int .i64 o] 195)).alloc (.cells #[.int .i64 x', .int .i64 y', .int .i64 lo', .int .i64 hi', .int .i64 i', .int .i64 o'] 195) = W at *
  obtain ⟨q0, q1, q2, q3, q4, q5⟩ := Cls.six (by omega) hn
  obtain ⟨p0, p1, p2, p3, p4, p5⟩ := Cls.six (by omega) hm
  have qn := Cls.any W
  clear hn hm W1 W2
  refine wp_region_cls (by kernel_rfl) (by kernel_rfl) ?_
  repeat (go_big_quiet_step (first
    | (go_at_call 180; exact Calls.cls_of (xs_any _ _ _ _ _ _ _))
    | (go_at_call 182; exact Calls.cls_of (ys_any _ _ _ _ _ _ _))
    | (go_at_call 183; exact Calls.cls_of (levels_any _ _ _ _ _ _ _))
    | (go_at_call 188; exact Calls.cls_of (widen_any _ _ _ _ (by first | exact X | exact Y) (by first | exact X | exact Y) O))
    | (go_at_call 189; exact Calls.cls_of (meetsCell_val _ _ _ _ _ _ (by first | exact h1 | exact h2)))
    | (go_at_call 190; exact Calls.cls_of (meetsLevel_any _ _ _ _ _))))
  refine wpQuiet_nil ?_
  rintro _ ⟨u, rfl⟩
  clear q0 q1 q2 q3 q4 q5 p0 p1 p2 p3 p4 p5 qn
  go_wp2
  go_ret
  exact ⟨by rw [ER.out]; simp [*], B2.trans (u.same.mono B2.size)⟩

set_option maxHeartbeats 4000000 in
theorem beside_c (x y lo hi i o x' y' lo' hi' i' o' : Int) (w : World) (hA : boxB ⟨x, y, lo, hi, i, o⟩ = true) (hB : boxB ⟨x', y', lo', hi', i', o'⟩ = true) (h1 : meetB (x - 1) (x + 1) x' x' = true) (h2 : meetB (y - 1) (y + 1) y' y' = true) :
    Calls Tryz.prog 170 #[.agg #[.int .i64 x, .int .i64 y, .int .i64 lo, .int .i64 hi, .int .i64 i, .int .i64 o], .agg #[.int .i64 x', .int .i64 y', .int .i64 lo', .int .i64 hi', .int .i64 i', .int .i64 o']] w
      fun e w' => e = .returned (.bool (besideB ⟨x, y, lo, hi, i, o⟩ ⟨x', y', lo', hi', i', o'⟩)) ∧ Below w.heap.size w w' := by
  have ER : Hid (besideB ⟨x, y, lo, hi, i, o⟩ ⟨x', y', lo', hi', i', o'⟩ = (meetB (x - 1) (x + 1) x' x' && meetB (y - 1) (y + 1) y' y' && meetB lo hi lo' hi')) := beside_meets _ _ hA hB
  rw [boxB_iff] at hA
  simp only at hA
  have X : -100 ≤ x ∧ x ≤ 100 := by omega
  have Y : -100 ≤ y ∧ y ≤ 100 := by omega
  have O : (-100 : Int) ≤ 1 ∧ (1 : Int) ≤ 100 := by omega
  clear hA hB
  have hn := World.rangeAt_alloc (box_new w ⟨x, y, lo, hi, i, o⟩ 195) (.cells #[.int .i64 x', .int .i64 y', .int .i64 lo', .int .i64 hi', .int .i64 i', .int .i64 o'] 195)
  have hm := box_new (w.alloc (.cells #[.int .i64 x, .int .i64 y, .int .i64 lo, .int .i64 hi, .int .i64 i, .int .i64 o] 195)) ⟨x', y', lo', hi', i', o'⟩ 195
  rw [World.size_alloc] at hm
  have B2 := bel2 (w := w) (.cells #[.int .i64 x, .int .i64 y, .int .i64 lo, .int .i64 hi, .int .i64 i, .int .i64 o] 195) (.cells #[.int .i64 x', .int .i64 y', .int .i64 lo', .int .i64 hi', .int .i64 i', .int .i64 o'] 195)
  have z2 : ((w.alloc (.cells #[.int .i64 x, .int .i64 y, .int .i64 lo, .int .i64 hi, .int .i64 i, .int .i64 o] 195)).alloc (.cells #[.int .i64 x', .int .i64 y', .int .i64 lo', .int .i64 hi', .int .i64 i', .int .i64 o'] 195)).heap.size = w.heap.size + 1 + 1 := by simp
  have W1 := widen_any x x 1
  have W2 := widen_any y y 1
  go_enter Tryz.func170, Tryz.ntmps170
  go_wp2
  generalize (w.alloc (.cells #[.int .i64 x, .int .i64 y, .int .i64 lo, .int .i64 hi, .int .i64 i, .int .i64 o] 195)).alloc (.cells #[.int .i64 x', .int .i64 y', .int .i64 lo', .int .i64 hi', .int .i64 i', .int .i64 o'] 195) = W at *
  obtain ⟨q0, q1, q2, q3, q4, q5⟩ := Cls.six (by omega) hn
  obtain ⟨p0, p1, p2, p3, p4, p5⟩ := Cls.six (by omega) hm
  have qn := Cls.any W
  clear hn hm W1 W2
  refine wp_region_cls (by kernel_rfl) (by kernel_rfl) ?_
  repeat (go_big_quiet_step (first
    | (go_at_call 180; exact Calls.cls_of (xs_any _ _ _ _ _ _ _))
    | (go_at_call 182; exact Calls.cls_of (ys_any _ _ _ _ _ _ _))
    | (go_at_call 183; exact Calls.cls_of (levels_any _ _ _ _ _ _ _))
    | (go_at_call 188; exact Calls.cls_of (widen_any _ _ _ _ (by first | exact X | exact Y) (by first | exact X | exact Y) O))
    | (go_at_call 189; exact Calls.cls_of (meetsCell_val _ _ _ _ _ _ (by first | exact h1 | exact h2)))
    | (go_at_call 190; exact Calls.cls_of (meetsLevel_any _ _ _ _ _))))
  refine wpQuiet_nil ?_
  rintro _ ⟨u, rfl⟩
  clear q0 q1 q2 q3 q4 q5 p0 p1 p2 p3 p4 p5 qn
  go_wp2
  go_ret
  exact ⟨by rw [ER.out]; simp [*], B2.trans (u.same.mono B2.size)⟩
theorem beside_any (s t : Bx) (w : World) (hA : boxB s = true) (hB : boxB t = true) :
    Calls Tryz.prog 170 #[s.val, t.val] w fun e w' => e = .returned (.bool (besideB s t)) ∧ Below w.heap.size w w' := by
  obtain ⟨x, y, lo, hi, i, o⟩ := s
  obtain ⟨x', y', lo', hi', i', o'⟩ := t
  cases h1 : meetB (x - 1) (x + 1) x' x'
  · exact beside_a x y lo hi i o x' y' lo' hi' i' o' w hA hB h1
  cases h2 : meetB (y - 1) (y + 1) y' y'
  · exact beside_b x y lo hi i o x' y' lo' hi' i' o' w hA hB h1 h2
  · exact beside_c x y lo hi i o x' y' lo' hi' i' o' w hA hB h1 h2
theorem beside_val (s t : Bx) (v : Bool) (w : World) (hA : boxB s = true) (hB : boxB t = true) (hv : besideB s t = v) :
    Calls Tryz.prog 170 #[s.val, t.val] w fun e w' => e = .returned (.bool v) ∧ Below w.heap.size w w' := by
  rw [← hv]; exact beside_any s t w hA hB
end Go.Proofs.YtgjleeamhkolhaaGreatDoor

namespace Go.Proofs.YtgjleeamhkolhaaGreatDoor
open Go.RowKit

theorem close_no {a b : Bx} (h : boxB a = false ∨ boxB b = false ∨ nearB a b = false) : closeT a b = 0 ∧ closeB a b = false := by
  unfold closeT closeB
  rcases h with h | h | h <;> simp [h]
theorem close_yes {a b : Bx} (ha : boxB a = true) (hb : boxB b = true) (h : nearB a b = true) : closeT a b = max a.in_ b.in_ ∧ closeB a b = true := by
  unfold closeT closeB
  simp [ha, hb, h]

/-- Both boxes lie in two blocks. -/
structure Two (w W : World) (s t : Bx) : Prop where
  old : Below w.heap.size w W
  lt : w.heap.size + 1 < W.heap.size
  one : W.rangeAt w.heap.size 0 s.cells
  two : W.rangeAt (w.heap.size + 1) 0 t.cells
theorem Two.new (w : World) (s t : Bx) (T : TypeId) : Two w ((w.alloc (.cells #[.int .i64 s.x, .int .i64 s.y, .int .i64 s.lo, .int .i64 s.hi, .int .i64 s.in_, .int .i64 s.out] T)).alloc (.cells #[.int .i64 t.x, .int .i64 t.y, .int .i64 t.lo, .int .i64 t.hi, .int .i64 t.in_, .int .i64 t.out] T)) s t where
  old := bel2 _ _
  lt := by simp
  one := World.rangeAt_alloc (box_new w s T) _
  two := by have := box_new (w.alloc (.cells #[.int .i64 s.x, .int .i64 s.y, .int .i64 s.lo, .int .i64 s.hi, .int .i64 s.in_, .int .i64 s.out] T)) t T; rwa [World.size_alloc] at this
theorem Two.keep {w W W' : World} {s t : Bx} (h : Two w W s t) (hb : Below W.heap.size W W') : Two w W' s t where
  old := h.old.trans (hb.mono h.old.size)
  lt := Nat.lt_of_lt_of_le h.lt hb.size
  one := range_below h.one hb (by have := h.lt; omega)
  two := range_below h.two hb h.lt
theorem Two.cells {w W : World} {s t : Bx} (h : Two w W s t) :
    (W.cell? ⟨w.heap.size, 0, none⟩ = some (.int .i64 s.x) ∧ W.cell? ⟨w.heap.size, 1, none⟩ = some (.int .i64 s.y) ∧ W.cell? ⟨w.heap.size, 2, none⟩ = some (.int .i64 s.lo) ∧ W.cell? ⟨w.heap.size, 3, none⟩ = some (.int .i64 s.hi) ∧ W.cell? ⟨w.heap.size, 4, none⟩ = some (.int .i64 s.in_) ∧ W.cell? ⟨w.heap.size, 5, none⟩ = some (.int .i64 s.out)) ∧
    (W.cell? ⟨w.heap.size + 1, 0, none⟩ = some (.int .i64 t.x) ∧ W.cell? ⟨w.heap.size + 1, 1, none⟩ = some (.int .i64 t.y) ∧ W.cell? ⟨w.heap.size + 1, 2, none⟩ = some (.int .i64 t.lo) ∧ W.cell? ⟨w.heap.size + 1, 3, none⟩ = some (.int .i64 t.hi) ∧ W.cell? ⟨w.heap.size + 1, 4, none⟩ = some (.int .i64 t.in_) ∧ W.cell? ⟨w.heap.size + 1, 5, none⟩ = some (.int .i64 t.out)) :=
  ⟨⟨h.one 0 _ rfl, h.one 1 _ rfl, h.one 2 _ rfl, h.one 3 _ rfl, h.one 4 _ rfl, h.one 5 _ rfl⟩, ⟨h.two 0 _ rfl, h.two 1 _ rfl, h.two 2 _ rfl, h.two 3 _ rfl, h.two 4 _ rfl, h.two 5 _ rfl⟩⟩

/-- Besides them a new block of two numbers. -/
structure Three (w W : World) (s t : Bx) (B : Nat) : Prop where
  both : Two w W s t
  ge : w.heap.size + 1 < B
  lt : B < W.heap.size
  c0 : W.cell? ⟨B, 0, none⟩ = some (.int .i64 0)
  c1 : W.cell? ⟨B, 1, none⟩ = some (.int .i64 0)
  fz : ∀ j, W.frozen? ⟨B, j, none⟩ = false
theorem Three.new {w W : World} {s t : Bx} (h : Two w W s t) (T : TypeId) : Three w (W.alloc (.cells #[.int .i64 0, .int .i64 0] T)) s t W.heap.size where
  both := h.keep ((Below.refl _ _).alloc (Nat.le_refl _) _)
  ge := h.lt
  lt := by simp
  c0 := by simp [go_sem]
  c1 := by simp [go_sem]
  fz j := by simp [go_sem]
theorem Three.keep {w W W' : World} {s t : Bx} {B : Nat} (h : Three w W s t B) (hb : Below W.heap.size W W') : Three w W' s t B where
  both := h.both.keep hb
  ge := h.ge
  lt := Nat.lt_of_lt_of_le h.lt hb.size
  c0 := (hb.cell (p := ⟨B, 0, none⟩) h.lt).trans h.c0
  c1 := (hb.cell (p := ⟨B, 1, none⟩) h.lt).trans h.c1
  fz j := (hb.frozen (p := ⟨B, j, none⟩) h.lt).trans (h.fz j)
theorem Two.set {w W : World} {s t : Bx} (h : Two w W s t) {p : Addr} (hp : w.heap.size + 1 < p.block) (v : Value) : Two w (W.setCell p v) s t where
  old := h.old.setCell (by omega) v
  lt := by have := h.lt; simpa [World.setCell] using this
  one j u hu := by rw [World.cell?_setCell_other _ _ _ _ (by intro e; rw [e] at hp; simp at hp; omega)]; exact h.one j u hu
  two j u hu := by rw [World.cell?_setCell_other _ _ _ _ (by intro e; rw [e] at hp; simp at hp)]; exact h.two j u hu
/-- A new block of two numbers that have been laid. -/
structure PairAt (w W : World) (B : Nat) (a b : Int) : Prop where
  old : Below w.heap.size w W
  lt : B < W.heap.size
  c0 : W.cell? ⟨B, 0, none⟩ = some (.int .i64 a)
theorem PairAt.alloc {w W : World} {s t : Bx} (h : Two w W s t) (a b : Int) (T : TypeId) : PairAt w (W.alloc (.cells #[.int .i64 a, .int .i64 b] T)) W.heap.size a b where
  old := h.old.alloc h.old.size _
  lt := by simp
  c0 := by simp [go_sem]
theorem PairAt.set {w W : World} {s t : Bx} {B : Nat} (h : Three w W s t B) (a b : Int) : PairAt w ((W.setCell ⟨B, 0, none⟩ (.int .i64 a)).setCell ⟨B, 1, none⟩ (.int .i64 b)) B a b where
  old := (h.both.old.setCell (by have := h.ge; show _ ≤ B; omega) _).setCell (by have := h.ge; show _ ≤ B; omega) _
  lt := by have := h.lt; simpa [World.setCell] using this
  c0 := by
    rw [World.cell?_setCell_other _ _ _ _ (by simp)]
    have h0 := h.c0
    simp [go_sem, h0]
theorem PairAt.after {w W W' : World} {B : Nat} {a b : Int} (h : PairAt w W B a b) (hb : Below W.heap.size W W') : W'.cell? ⟨B, 0, none⟩ = some (.int .i64 a) := (hb.cell (p := ⟨B, 0, none⟩) h.lt).trans h.c0

set_option maxHeartbeats 4000000 in
theorem close_any (s t : Bx) (w : World) :
    Calls Tryz.prog 154 #[s.val, t.val] w fun e w' => e = .returned (.tuple #[.int .i64 (closeT s t), .bool (closeB s t)]) ∧ Below w.heap.size w w' := by
  have T0 := Two.new w s t 195
  cases h1 : boxB s with
  | false =>
    have HE : Hid (closeT s t = 0 ∧ closeB s t = false) := close_no (.inl h1)
    have H1 : Hid (boxB s = false) := h1
    clear h1
    go_enter Tryz.func154, Tryz.ntmps154
    go_wp2_with fail
    refine (boxOk_val s false _ H1.out).mono ?_
    rintro e w1 ⟨rfl, hb1⟩
    have T1 := T0.keep hb1
    clear T0 hb1
    go_wp2
    go_ret2
    exact ⟨by rw [HE.out.1, HE.out.2]; rfl, T1.old⟩
  | true =>
    have H1 : Hid (boxB s = true) := h1
    cases h2 : boxB t with
    | false =>
      have HE : Hid (closeT s t = 0 ∧ closeB s t = false) := close_no (.inr (.inl h2))
      have H2 : Hid (boxB t = false) := h2
      clear h1 h2
      go_enter Tryz.func154, Tryz.ntmps154
      go_wp2_with fail
      refine (boxOk_val s true _ H1.out).mono ?_
      rintro e w1 ⟨rfl, hb1⟩
      have T1 := T0.keep hb1
      clear T0 hb1
      obtain ⟨⟨c0, c1, c2, c3, c4, c5⟩, ⟨d0, d1, d2, d3, d4, d5⟩⟩ := T1.cells
      go_wp2_with fail
      refine (boxOk_val t false _ H2.out).mono ?_
      rintro e w2 ⟨rfl, hb2⟩
      have T2 := T1.keep hb2
      clear T1 hb2 c0 c1 c2 c3 c4 c5 d0 d1 d2 d3 d4 d5
      go_wp2
      go_ret2
      exact ⟨by rw [HE.out.1, HE.out.2]; rfl, T2.old⟩
    | true =>
      have H2 : Hid (boxB t = true) := h2
      cases h3 : besideB s t with
      | false =>
        have HE : Hid (closeT s t = 0 ∧ closeB s t = false) := close_no (.inr (.inr (by rw [near_ticks s t h1 h2, h3]; rfl)))
        have H3 : Hid (besideB s t = false) := h3
        clear h1 h2 h3
        go_enter Tryz.func154, Tryz.ntmps154
        go_wp2_with fail
        refine (boxOk_val s true _ H1.out).mono ?_
        rintro e w1 ⟨rfl, hb1⟩
        have T1 := T0.keep hb1
        clear T0 hb1
        obtain ⟨⟨c0, c1, c2, c3, c4, c5⟩, ⟨d0, d1, d2, d3, d4, d5⟩⟩ := T1.cells
        go_wp2_with fail
        refine (boxOk_val t true _ H2.out).mono ?_
        rintro e w2 ⟨rfl, hb2⟩
        have T2 := T1.keep hb2
        clear T1 hb2 c0 c1 c2 c3 c4 c5 d0 d1 d2 d3 d4 d5
        obtain ⟨⟨c0, c1, c2, c3, c4, c5⟩, ⟨d0, d1, d2, d3, d4, d5⟩⟩ := T2.cells
        go_wp2_with fail
        refine (beside_val s t false _ H1.out H2.out H3.out).mono ?_
        rintro e w3 ⟨rfl, hb3⟩
        have T3 := T2.keep hb3
        clear T2 hb3 c0 c1 c2 c3 c4 c5 d0 d1 d2 d3 d4 d5
        go_wp2
        go_ret2
        exact ⟨by rw [HE.out.1, HE.out.2]; rfl, T3.old⟩
      | true =>
        have HN : Hid (nearB s t = !decide (min s.out t.out < max s.in_ t.in_)) := by show _ = _; rw [near_ticks s t h1 h2, h3]; rfl
        have HY := close_yes h1 h2
        have HO := fun h => close_no (a := s) (b := t) (.inr (.inr h))
        have H3 : Hid (besideB s t = true) := h3
        have HA : Hid ((nearB s t = true → closeT s t = max s.in_ t.in_ ∧ closeB s t = true) ∧ (nearB s t = false → closeT s t = 0 ∧ closeB s t = false)) := ⟨HY, HO⟩
        clear h1 h2 h3 HY HO
        go_enter Tryz.func154, Tryz.ntmps154
        go_wp2_with fail
        refine (boxOk_val s true _ H1.out).mono ?_
        rintro e w1 ⟨rfl, hb1⟩
        have T1 := T0.keep hb1
        clear T0 hb1
        obtain ⟨⟨c0, c1, c2, c3, c4, c5⟩, ⟨d0, d1, d2, d3, d4, d5⟩⟩ := T1.cells
        go_wp2_with fail
        refine (boxOk_val t true _ H2.out).mono ?_
        rintro e w2 ⟨rfl, hb2⟩
        have T2 := T1.keep hb2
        clear T1 hb2 c0 c1 c2 c3 c4 c5 d0 d1 d2 d3 d4 d5
        obtain ⟨⟨c0, c1, c2, c3, c4, c5⟩, ⟨d0, d1, d2, d3, d4, d5⟩⟩ := T2.cells
        go_wp2_with fail
        refine (beside_val s t true _ H1.out H2.out H3.out).mono ?_
        rintro e w3 ⟨rfl, hb3⟩
        have T3 := T2.keep hb3
        clear T2 hb3 c0 c1 c2 c3 c4 c5 d0 d1 d2 d3 d4 d5
        have T3d : Two w w3.drew s t := T3.keep ((Below.refl _ _).drew)
        obtain ⟨⟨c0, c1, c2, c3, c4, c5⟩, ⟨d0, d1, d2, d3, d4, d5⟩⟩ := T3d.cells
        go_wp2
        go_region_held3 (fun w' => (w'.cell? ⟨w.heap.size, 0, none⟩ = some (.int .i64 s.x) ∧ w'.cell? ⟨w.heap.size, 1, none⟩ = some (.int .i64 s.y) ∧ w'.cell? ⟨w.heap.size, 2, none⟩ = some (.int .i64 s.lo) ∧ w'.cell? ⟨w.heap.size, 3, none⟩ = some (.int .i64 s.hi) ∧ w'.cell? ⟨w.heap.size, 4, none⟩ = some (.int .i64 s.in_) ∧ w'.cell? ⟨w.heap.size, 5, none⟩ = some (.int .i64 s.out)) ∧ (w'.cell? ⟨w.heap.size + 1, 0, none⟩ = some (.int .i64 t.x) ∧ w'.cell? ⟨w.heap.size + 1, 1, none⟩ = some (.int .i64 t.y) ∧ w'.cell? ⟨w.heap.size + 1, 2, none⟩ = some (.int .i64 t.lo) ∧ w'.cell? ⟨w.heap.size + 1, 3, none⟩ = some (.int .i64 t.hi) ∧ w'.cell? ⟨w.heap.size + 1, 4, none⟩ = some (.int .i64 t.in_) ∧ w'.cell? ⟨w.heap.size + 1, 5, none⟩ = some (.int .i64 t.out)))
          (first
            | exact Two.cells (by assumption)
            | exact Two.cells (Three.both (by assumption))
            | exact Two.cells (Two.keep (by assumption) ((Below.refl _ _).alloc (Nat.le_refl _) _))
            | exact Two.cells (Two.set (Two.set (Three.both (by assumption)) (Three.ge (by assumption)) _) (Three.ge (by assumption)) _))
          (first
            | (go_at_call 171; refine (ticks_any _ _ _ _ _ _ _).mono ?_; rintro e w4 ⟨rfl, hb4⟩; first | have T4 := Two.keep (by assumption) hb4 | (have T4 := Three.keep (by assumption) hb4; have z0 := T4.c0; have z1 := T4.c1; have zf := T4.fz) | (have T4 : Three w w4 s t w3.heap.size := Three.keep (Three.new T3d _) hb4; have z0 := T4.c0; have z1 := T4.c1; have zf := T4.fz) | (have T4 := Three.keep (Three.new T4 _) hb4; have z0 := T4.c0; have z1 := T4.c1; have zf := T4.fz))
            | (go_at_call 172; refine (meetTick_any _ _ _ _ _).mono ?_; rintro e w5 ⟨rfl, hb5⟩; first | have T5 := Two.keep (by assumption) hb5 | (have T5 := Three.keep (by assumption) hb5; have z0 := T5.c0; have z1 := T5.c1; have zf := T5.fz) | (have T5 := Three.keep (Three.new T4 _) hb5; have z0 := T5.c0; have z1 := T5.c1; have zf := T5.fz)))
        all_goals
          first
            | have D := PairAt.alloc T5 (max s.in_ t.in_) (min s.out t.out) 242
            | have D := PairAt.set T5 (max s.in_ t.in_) (min s.out t.out)
          clear c0 c1 c2 c3 c4 c5 d0 d1 d2 d3 d4 d5 T3 T3d
          have HD : Hid (PairAt _ _ _ _ _) := D
          clear D
          by_cases h9 : min s.out t.out < max s.in_ t.in_
          · have G : Hid (closeT s t = 0 ∧ closeB s t = false) := HA.out.2 (by rw [HN.out]; simp [h9])
            go_wp2_with fail
            refine (emptyTick_val _ _ true _ (by simpa using h9)).mono ?_
            rintro e w6 ⟨rfl, hb6⟩
            go_wp2
            go_ret2
            exact ⟨by rw [G.out.1, G.out.2]; rfl, HD.out.old.trans (hb6.mono HD.out.old.size)⟩
          · have G : Hid (closeT s t = max s.in_ t.in_ ∧ closeB s t = true) := HA.out.1 (by rw [HN.out]; simp [h9])
            go_wp2_with fail
            refine (emptyTick_val _ _ false _ (by simpa using h9)).mono ?_
            rintro e w6 ⟨rfl, hb6⟩
            have r1 := HD.out.after hb6
            go_wp2
            go_ret2
            exact ⟨by rw [G.out.1, G.out.2]; rfl, HD.out.old.trans (hb6.mono HD.out.old.size)⟩
end Go.Proofs.YtgjleeamhkolhaaGreatDoor

namespace Go.Proofs.YtgjleeamhkolhaaGreatDoor
open Go.RowKit Go.Shelf

/-- A block of cells lies. -/
def Blk (W : World) (B : Nat) (C : Array Value) (t : TypeId) : Prop := W.heap[B]? = some (.cells C t (0, 0))
theorem Blk.lt {W : World} {B : Nat} {C : Array Value} {t : TypeId} (h : Blk W B C t) : B < W.heap.size := (Array.getElem?_eq_some_iff.1 h).1
theorem Blk.keep {W W' : World} {B : Nat} {C : Array Value} {t : TypeId} (h : Blk W B C t) (hb : Below W.heap.size W W') : Blk W' B C t := (hb.block B h.lt).trans h
theorem Blk.new (W : World) (C : Array Value) (t : TypeId) : Blk (W.alloc (.cells C t)) W.heap.size C t := heap_alloc_new W _
theorem Blk.set {W : World} {B : Nat} {C : Array Value} {t : TypeId} (h : Blk W B C t) {p : Addr} (hp : p.block ≠ B) (v : Value) : Blk (W.setCell p v) B C t := (heap_setCell_other W p B v (fun e => hp e.symm)).trans h
theorem Blk.one {W : World} {B : Nat} {v : Value} {t : TypeId} (h : Blk W B #[v] t) : W.cell? ⟨B, 0, none⟩ = some v ∧ ∀ j, W.frozen? ⟨B, j, none⟩ = false :=
  ⟨by rw [cell_of_row W B 0 _ _ _ h]; rfl, fun j => frozen_of_row W B j _ _ h⟩
theorem Blk.put1 {W : World} {B : Nat} {v : Value} {t : TypeId} (h : Blk W B #[v] t) (u : Value) : Blk (W.setCell ⟨B, 0, none⟩ u) B #[u] t := by
  unfold Blk; rw [heap_setCell_same W B 0 _ _ _ h]; rfl

/-- The blocks of the call: the two tubes, the answer. -/
structure MeetB (w W : World) (t u : Tb) : Prop where
  old : Below w.heap.size w W
  one : Blk W w.heap.size #[.string t.nm, .slice t.a t.l.length t.cap] 132
  two : Blk W (w.heap.size + 1) #[.string u.nm, .slice u.a u.l.length u.cap] 132
  res : Blk W (w.heap.size + 1 + 1) #[.string ⟨#[]⟩, .string ⟨#[]⟩, .int .i64 0, .int .i64 0, .int .i64 0] 127
theorem MeetB.keep {w W W' : World} {t u : Tb} (h : MeetB w W t u) (hb : Below W.heap.size W W') : MeetB w W' t u :=
  ⟨h.old.trans (hb.mono h.old.size), h.one.keep hb, h.two.keep hb, h.res.keep hb⟩
theorem MeetB.lt {w W : World} {t u : Tb} (h : MeetB w W t u) : w.heap.size + 1 + 1 < W.heap.size := h.res.lt
theorem MeetB.set {w W : World} {t u : Tb} (h : MeetB w W t u) {p : Addr} (hp : w.heap.size + 1 + 1 < p.block) (v : Value) : MeetB w (W.setCell p v) t u :=
  ⟨h.old.setCell (by omega) v, h.one.set (by omega) v, h.two.set (by omega) v, h.res.set (by omega) v⟩
theorem MeetB.new (w : World) (t u : Tb) : MeetB w (((w.alloc (.cells #[.string t.nm, .slice t.a t.l.length t.cap] 132)).alloc (.cells #[.string u.nm, .slice u.a u.l.length u.cap] 132)).alloc (.cells #[.string ⟨#[]⟩, .string ⟨#[]⟩, .int .i64 0, .int .i64 0, .int .i64 0] 127)) t u where
  old := bel3 _ _ _
  one := ((Blk.new w _ _).keep (bel1 _)).keep (bel1 _)
  two := by have h := (Blk.new (w.alloc (.cells #[.string t.nm, .slice t.a t.l.length t.cap] 132)) #[.string u.nm, .slice u.a u.l.length u.cap] 132).keep (bel1 (.cells #[.string ⟨#[]⟩, .string ⟨#[]⟩, .int .i64 0, .int .i64 0, .int .i64 0] 127)); rwa [World.size_alloc] at h
  res := by have h := Blk.new ((w.alloc (.cells #[.string t.nm, .slice t.a t.l.length t.cap] 132)).alloc (.cells #[.string u.nm, .slice u.a u.l.length u.cap] 132)) #[.string ⟨#[]⟩, .string ⟨#[]⟩, .int .i64 0, .int .i64 0, .int .i64 0] 127; rwa [World.size_alloc, World.size_alloc] at h
theorem MeetB.cells {w W : World} {t u : Tb} (h : MeetB w W t u) : W.cell? ⟨w.heap.size, 0, none⟩ = some (.string t.nm) ∧ W.cell? ⟨w.heap.size, 1, none⟩ = some (.slice t.a t.l.length t.cap) ∧ W.cell? ⟨w.heap.size + 1, 0, none⟩ = some (.string u.nm) ∧ W.cell? ⟨w.heap.size + 1, 1, none⟩ = some (.slice u.a u.l.length u.cap) :=
  ⟨(blk2 h.one).1, (blk2 h.one).2.1, (blk2 h.two).1, (blk2 h.two).2.1⟩
/-- Besides them a block of one number. -/
structure MeetE (w W : World) (t u : Tb) (B : Nat) (E : Int) : Prop where
  all : MeetB w W t u
  ge : w.heap.size + 1 + 1 < B
  box : Blk W B #[.int .i64 E] 3
theorem MeetE.keep {w W W' : World} {t u : Tb} {B : Nat} {E : Int} (h : MeetE w W t u B E) (hb : Below W.heap.size W W') : MeetE w W' t u B E := ⟨h.all.keep hb, h.ge, h.box.keep hb⟩
theorem MeetE.new {w W : World} {t u : Tb} (h : MeetB w W t u) (E : Int) : MeetE w (W.alloc (.cells #[.int .i64 E] 3)) t u W.heap.size E := ⟨h.keep (bel1 _), h.lt, Blk.new W _ _⟩
theorem MeetE.put {w W : World} {t u : Tb} {B : Nat} {E : Int} (h : MeetE w W t u B E) (E' : Int) : MeetE w (W.setCell ⟨B, 0, none⟩ (.int .i64 E')) t u B E' := ⟨h.all.set h.ge _, h.ge, h.box.put1 _⟩
theorem MeetE.cells {w W : World} {t u : Tb} {B : Nat} {E : Int} (h : MeetE w W t u B E) : W.cell? ⟨w.heap.size, 0, none⟩ = some (.string t.nm) ∧ W.cell? ⟨w.heap.size, 1, none⟩ = some (.slice t.a t.l.length t.cap) ∧ W.cell? ⟨w.heap.size + 1, 0, none⟩ = some (.string u.nm) ∧ W.cell? ⟨w.heap.size + 1, 1, none⟩ = some (.slice u.a u.l.length u.cap) := h.all.cells

set_option maxHeartbeats 4000000 in
theorem meetI_no (t u : Tb) (w : World) (hl : t.l.length ≤ 1048576) (hm : u.l.length ≤ 1048576) (ht : TubeAt w t) (hu : TubeAt w u) (hno : tubeB t = false ∨ (tubeB t = true ∧ tubeB u = false)) :
    Calls Tryz.prog 128 #[t.val, u.val] w fun e w' => e = .returned (.tuple #[.agg (clashC t.nm u.nm (meetTB t u)), .bool (meetTB t u).isSome]) ∧ Below w.heap.size w w' := by
  have M0 := MeetB.new w t u
  have G : Hid (meetTB t u = none) := meetTB_no (by rcases hno with h | h; · exact .inl h
                                                    · exact .inr h.2)
  rcases hno with h1 | ⟨h1, h2⟩
  · have H1 : Hid (tubeB t = false) := h1
    clear h1
    go_enter Tryz.func128, Tryz.ntmps128
    go_wp2_with fail
    refine (tubeOk_val t false _ hl (ht.below (bel3 _ _ _)) H1.out).mono ?_
    rintro e w1 ⟨rfl, hb1⟩
    have M1 := M0.keep hb1
    obtain ⟨r0, r1, r2, r3, r4, rf⟩ := blk5 M1.res
    have HB := M1.old
    clear M0 hb1
    go_wp2
    refine bodyPost_ret (v := .tuple #[.agg #[.string ⟨#[]⟩, .string ⟨#[]⟩, .int .i64 0, .int .i64 0, .int .i64 0], .bool false]) (by simp [results, Tryz.results128, go_sem, *]) rfl ⟨by rw [G.out]; rfl, ?_⟩
    iterate 5 (refine Below.setCell ?_ (by simp; omega) _)
    exact HB
  · have H1 : Hid (tubeB t = true) := h1
    have H2 : Hid (tubeB u = false) := h2
    clear h1 h2
    go_enter Tryz.func128, Tryz.ntmps128
    go_wp2_with fail
    refine (tubeOk_val t true _ hl (ht.below (bel3 _ _ _)) H1.out).mono ?_
    rintro e w1 ⟨rfl, hb1⟩
    have M1 := M0.keep hb1
    obtain ⟨_, _, c0, c1⟩ := M1.cells
    clear M0 hb1
    go_wp2_with fail
    refine (tubeOk_val u false _ hm (hu.below M1.old) H2.out).mono ?_
    rintro e w2 ⟨rfl, hb2⟩
    have M2 := M1.keep hb2
    obtain ⟨r0, r1, r2, r3, r4, rf⟩ := blk5 M2.res
    have HB := M2.old
    clear M1 hb2 c0 c1
    go_wp2
    refine bodyPost_ret (v := .tuple #[.agg #[.string ⟨#[]⟩, .string ⟨#[]⟩, .int .i64 0, .int .i64 0, .int .i64 0], .bool false]) (by simp [results, Tryz.results128, go_sem, *]) rfl ⟨by rw [G.out]; rfl, ?_⟩
    iterate 5 (refine Below.setCell ?_ (by simp; omega) _)
    exact HB
end Go.Proofs.YtgjleeamhkolhaaGreatDoor

namespace Go.Proofs.YtgjleeamhkolhaaGreatDoor
open Go.RowKit

section
variable {P : Program} {ops : Array Oper} {md : Region.Mode} {Q : Exit → Act → World → Prop}

/-- No operation defers. -/
def noDeferQ (ops : Array Oper) : Bool := ops.all fun o => match o.op with | .defer _ => false | _ => true
theorem noDeferQ_at (h : noDeferQ ops = true) {i : Nat} {o : Oper} (ho : ops[i]? = some o) : ∀ c, o.op ≠ .defer c := fun c hc => by
  have hm : o ∈ ops := Array.mem_of_getElem? ho
  have := Array.all_eq_true'.1 h o hm
  rw [hc] at this
  cases this

theorem opInQ_of {lp n : Nat} (hd : noDeferQ ops = true) (hQ : ¬ LetsOut Q) {i : Nat} {K K' : Act → World → Prop} {a : Act} {w : World} (hK : ∀ a w, K a w → K' a w) (h : wpOp P ops Q i K a w) : wpOpIn (Fence.wide.inRound lp) n P ops Q i K' a w := by
  unfold wpOp at h
  unfold wpOpIn
  cases ho : ops[i]? with
  | none => simp only [ho] at h ⊢; exact hK _ _ h
  | some o =>
    simp only [ho] at h ⊢
    split
    · rename_i hw
      rw [if_pos hw] at h
      rcases h with h | h
      · refine ⟨fun _ _ => trivial, ?_⟩
        rw [Oper.semAt_eq _ _ _ (noDeferQ_at hd ho)]
        unfold Oper.wp at h
        generalize (execOp a.eval o).run P w = r at h ⊢
        cases r with
        | ok x w' =>
          cases x <;> simp only [Oper.upon] at h <;> simp only [Oper.uponIn]
          case value v => exact hK _ _ h
          case skip => exact hK _ _ h
          case defer d => exact hK _ _ h
          case enter f args =>
            refine ⟨fun e => by simp [Fence.wide, Fence.inRound] at e, CallsIn.inRound lp (callsIn_wide.2 (h.mono fun e w'' he => ?_))⟩
            cases e with
            | returned v => exact hK _ _ he
            | panicked c => exact he
            | outgrown => exact he
          case row row args =>
            refine ⟨fun e => by simp [Fence.wide, Fence.inRound] at e, fun c cs _ => ?_⟩
            obtain ⟨v, w'', hr, hs⟩ := h c cs
            exact ⟨v, w'', hK _ _ hr, stepsIn_wide.2 hs⟩
        | halt x w' => cases x <;> simp only [Oper.upon] at h <;> simp only [Oper.uponIn] <;> exact h
      · exact absurd h.2 hQ
    · rename_i hw
      rw [if_neg hw] at h
      exact ⟨fun _ _ => trivial, hK _ _ h⟩

theorem anyInQ_of {lp n : Nat} (hd : noDeferQ ops = true) (hQ : ¬ LetsOut Q) : ∀ (fuel : Nat) (listed : Array Bool) (a : Act) (w : World), wpAny P md ops Q fuel listed a w → wpAnyIn (Fence.wide.inRound lp) n P md ops Q fuel listed a w
  | 0, _, _, _, h => h
  | fuel + 1, _, _, _, h => ⟨h.1, fun i hi => opInQ_of hd hQ (fun a' w' h' => anyInQ_of hd hQ fuel _ a' w' h') (h.2 i hi)⟩

end

theorem wpIn_region_cls {P : Program} {id n lp : Nat} {Q : Exit → Act → World → Prop} {a : Act} {w : World} {l : List Oper} (hm : P.follows .mixedOrders = true) (hB : Region.lexB .any l.toArray = true) (hd : noDeferQ l.toArray = true) (hQ : ¬ LetsOut Q)
    (h : wpQuiet P l.toArray (fun w' => ∃ u : Cls w, w' = u.it) (fun a' => ∀ w', (∃ u : Cls w, w' = u.it) → Q .normal a' w') l a) : (Code.region id l.toArray true).wpIn (Fence.wide.inRound lp) n P Q a w := by
  simp only [Region.lexB, Bool.and_eq_true] at hB
  refine wpIn_region_any hm (anyInQ_of hd hQ _ _ _ _ ?_)
  refine wpAny_of_quiet (C := fun w' => ∃ u : Cls w, w' = u.it) (Q := fun a' => ∀ w', (∃ u : Cls w, w' = u.it) → Q .normal a' w') (fun _ w' hw' h => h w' hw') _ _ _ _ ⟨⟨{ w with drawn := w.drawn + 1 }, (Below.refl w.heap.size w).drew⟩, rfl⟩ ?_
  have := wpAnyQ_lex (C := fun w' => ∃ u : Cls w, w' = u.it) (md := .any) hB.1 l 0 (Array.replicate l.toArray.size false) a (by simp) (by simpa using hB.2) h
  simpa using this
end Go.Proofs.YtgjleeamhkolhaaGreatDoor

namespace Go.Proofs.YtgjleeamhkolhaaGreatDoor
open Go.RowKit Go.Shelf
attribute [local go_sem] Oper.semAt_some

/-- All the blocks of the call while it ranges. -/
structure MeetI (w X : World) (t u : Tb) (B : Nat) (E : Int) (F : Nat) (st : Cl) : Prop where
  all : MeetE w X t u B E
  first : Blk X F (clashC t.nm u.nm st) 127
  found : Blk X (F + 1) #[.bool st.isSome] 4
theorem MeetE.set {w W : World} {t u : Tb} {B : Nat} {E : Int} (h : MeetE w W t u B E) {p : Addr} (hp : w.heap.size + 1 + 1 < p.block) (hB : p.block ≠ B) (v : Value) : MeetE w (W.setCell p v) t u B E := ⟨h.all.set hp v, h.ge, h.box.set hB v⟩
theorem MeetI.keep {w X Y : World} {t u : Tb} {B : Nat} {E : Int} {F : Nat} {st : Cl} (h : MeetI w X t u B E F st) (hb : Below X.heap.size X Y) : MeetI w Y t u B E F st := ⟨h.all.keep hb, h.first.keep hb, h.found.keep hb⟩
theorem MeetI.put {w X : World} {t u : Tb} {B : Nat} {E : Int} {F : Nat} {st : Cl} (h : MeetI w X t u B E F st) (hF : w.heap.size + 1 + 1 < F) (hB : B < F) (x : Int) (i j : Nat) :
    MeetI w ((((((X.setCell ⟨F, 0, none⟩ (.string t.nm)).setCell ⟨F, 1, none⟩ (.string u.nm)).setCell ⟨F, 2, none⟩ (.int .i64 x)).setCell ⟨F, 3, none⟩ (.int .i64 i)).setCell ⟨F, 4, none⟩ (.int .i64 j)).setCell ⟨F + 1, 0, none⟩ (.bool true)) t u B E F (some (x, i, j)) where
  all := by
    refine MeetE.set ?_ (by show _ < F + 1; omega) (by show F + 1 ≠ B; omega) _
    iterate 5 (refine MeetE.set ?_ (by show _ < F; omega) (by show F ≠ B; omega) _)
    exact h.all
  first := by
    obtain ⟨a, b, c, d, e, hc, _⟩ := clashC_some t.nm u.nm st
    have hb := h.first
    unfold Blk at hb
    rw [hc] at hb
    exact (heap_setCell_other _ _ _ _ (by show F ≠ F + 1; omega)).trans (blk5_set hb _ _ _ _ _)
  found := by
    refine Blk.put1 (v := .bool st.isSome) ?_ _
    iterate 5 (refine Blk.set ?_ (by show F ≠ F + 1; omega) _)
    exact h.found
theorem others_below {W W' : World} (h : Below W.heap.size W W') : KeepsOthers W W' := ⟨h.size, fun k _ hk _ => (h.block k (Array.getElem?_eq_some_iff.1 hk).1).trans hk⟩
theorem others_put {X Y : World} (h : KeepsOthers X Y) (F : Nat) (a b c d e f : Value) : KeepsOthers X ((((((Y.setCell ⟨F, 0, none⟩ a).setCell ⟨F, 1, none⟩ b).setCell ⟨F, 2, none⟩ c).setCell ⟨F, 3, none⟩ d).setCell ⟨F, 4, none⟩ e).setCell ⟨F + 1, 0, none⟩ f) :=
  (((((h.trans (KeepsOthers.setCell _ _ _)).trans (KeepsOthers.setCell _ _ _)).trans (KeepsOthers.setCell _ _ _)).trans (KeepsOthers.setCell _ _ _)).trans (KeepsOthers.setCell _ _ _)).trans (KeepsOthers.setCell _ _ _)
theorem keepP_put {Ba Bb : Nat} {X Y : World} (h : KeepP Ba Bb X Y) (F : Nat) (hF : F + 1 < Ba) (hF' : F + 1 < Bb) (a b c d e f : Value) : KeepP Ba Bb X ((((((Y.setCell ⟨F, 0, none⟩ a).setCell ⟨F, 1, none⟩ b).setCell ⟨F, 2, none⟩ c).setCell ⟨F, 3, none⟩ d).setCell ⟨F, 4, none⟩ e).setCell ⟨F + 1, 0, none⟩ f) := by
  refine KeepP.set ?_ (by show F + 1 ≠ Ba; omega) (by show F + 1 ≠ Bb; omega) _
  iterate 5 (refine KeepP.set ?_ (by show F ≠ Ba; omega) (by show F ≠ Bb; omega) _)
  exact h
theorem blk_kept {X Y : World} {B n : Nat} {C : Array Value} {t : TypeId} {row : Option Nat} (h : Blk X B C t) (hg : X.grownBy Y row) (hr : ∀ r, row = some r → n ≤ r ∧ ∃ o : Obj, X.heap[r]? = some o ∧ o.isCells = false) : Blk Y B C t :=
  (hg.block B h.lt (fun e' => by obtain ⟨_, o, ho, hc⟩ := hr B e'.symm; rw [show X.heap[B]? = _ from h] at ho; cases ho; cases hc)).trans h
theorem meetI_own {β : Type} {w : World} {t u : Tb} {B : Nat} {E : Int} {F n : Nat} (hn : w.heap.size ≤ n) (_ : B < n) (_ : F < n) (f : β → Cl) : OwnFrom n (fun (s : β) X => MeetI w X t u B E F (f s)) := fun s X Y row hs hg hr =>
  ⟨⟨⟨hs.all.all.old.grown hg hs.all.all.old.size (fun k e => by have := (hr k e).1; omega), blk_kept hs.all.all.one hg hr, blk_kept hs.all.all.two hg hr, blk_kept hs.all.all.res hg hr⟩, hs.all.ge, blk_kept hs.all.box hg hr⟩, blk_kept hs.first hg hr, blk_kept hs.found hg hr⟩
theorem old_alloc2 {W : World} {B : Nat} (hB : B < W.heap.size) : ∀ (ob ob' : Obj) (j : Nat), ((W.alloc ob).alloc ob').cell? ⟨B, j, none⟩ = W.cell? ⟨B, j, none⟩ := fun ob ob' j => (bel2 ob ob').cell (p := ⟨B, j, none⟩) hB

set_option maxRecDepth 100000 in
set_option maxHeartbeats 8000000 in
theorem meetI_yes (t u : Tb) (w : World) (hl : t.l.length ≤ 1048576) (hm : u.l.length ≤ 1048576) (ht : TubeAt w t) (hu : TubeAt w u) (h1 : tubeB t = true) (h2 : tubeB u = true) :
    Calls Tryz.prog 128 #[t.val, u.val] w fun e w' => e = .returned (.tuple #[.agg (clashC t.nm u.nm (meetTB t u)), .bool (meetTB t u).isSome]) ∧ Below w.heap.size w w' := by
  have M0 := MeetB.new w t u
  have G : Hid (meetTB t u = meetOf t.l u.l (pairsN u.l.length t.l.length)) := meetTB_yes h1 h2
  have H1 : Hid (tubeB t = true) := h1
  have H2 : Hid (tubeB u = true) := h2
  clear h1 h2
  have hfd1 := fun wx => lane_field t.nm t.a t.l.length t.cap wx
  have hfd2 := fun wx => lane_field u.nm u.a u.l.length u.cap wx
  refine (callsIn_wide (n := 4)).1 ?_
  refine callsIn_of_wp_marks Tryz.func128 rfl trivial ?_ rfl
  simp only [Tryz.ntmps128, List.size_toArray, List.length_cons, List.length_nil, Nat.reduceAdd, Nat.reduceSub, Array.replicate_succ, Array.replicate_zero, List.push_toArray, List.append_toArray, List.nil_append, List.cons_append]
  refine wpIn_wide.2 ?_
  go_wp2_with fail
  refine (tubeOk_val t true _ hl (ht.below (bel3 _ _ _)) H1.out).mono ?_
  rintro e w1 ⟨rfl, hb1⟩
  have M1 := M0.keep hb1
  obtain ⟨_, _, c0, c1⟩ := M1.cells
  clear M0 hb1
  go_wp2_with fail
  refine (tubeOk_val u true _ hm (hu.below M1.old) H2.out).mono ?_
  rintro e w2 ⟨rfl, hb2⟩
  have M2 := M1.keep hb2
  clear M1 hb2 c0 c1
  have M3 : MeetB w w2.drew t u := M2.keep ((Below.refl _ _).drew)
  obtain ⟨c0, c1, c2, c3⟩ := M2.cells
  go_wp2
  rename_i K aK
  have hrest : ∀ (B : Nat) (E : Int) (W : World), MeetE w W t u B E → max (beginB t.l) (beginB u.l) = E → K { tmps := #[t.val, u.val, .pointer (some ⟨w.heap.size, 0, none⟩), .pointer (some ⟨w.heap.size + 1, 0, none⟩), .pointer (some ⟨w.heap.size + 1 + 1, 0, none⟩), .bool false, .pointer (some ⟨B, 0, none⟩), undef, undef, undef, undef, undef, undef, .agg #[.string t.nm, .slice t.a t.l.length t.cap], .bool true, .bool false, .bool false, .agg #[.string u.nm, .slice u.a u.l.length u.cap], .bool true, .bool false, .bool false, undef, .agg #[.string t.nm, .slice t.a t.l.length t.cap], .agg #[.string t.nm, .slice t.a t.l.length t.cap], .slice t.a t.l.length t.cap, .int .i64 (beginB t.l), .agg #[.string u.nm, .slice u.a u.l.length u.cap], .agg #[.string u.nm, .slice u.a u.l.length u.cap], .slice u.a u.l.length u.cap, .int .i64 (beginB u.l), .int .i64 E, undef, undef, undef, undef, undef, undef, undef, undef, undef, undef, undef, undef, undef, undef, undef, undef, undef, undef, undef, undef, undef, undef, undef, undef, undef, undef, undef, undef, undef, undef, undef, undef, undef, undef, undef, undef, undef, undef, undef, undef, undef, undef, undef, undef, undef], defers := [] } W := by
    clear M2 M3 c0 c1 c2 c3
    intro B E W D hE'
    refine aK _ _ ?_
    clear aK
    have HE' : Hid (max (beginB t.l) (beginB u.l) = E) := hE'
    clear hE'
    obtain ⟨d0, d1, d2, d3⟩ := D.cells
    have n0 := old_alloc D.all.one.lt
    have n1 := old_alloc D.all.two.lt
    have n2 := old_alloc2 D.all.one.lt
    have n3 := old_alloc2 D.all.two.lt
    go_wp2_with (go_at_call 153; refine ((callsIn_wide (n := 4)).1 (bp_in 4 _ _ _ _ _ _ _)).mono ?_; rintro e w9 ⟨rfl, rfl⟩)
    rename_i K2 aK2
    have Z := D.all.lt
    have ZB := D.ge
    have ZBl := D.box.lt
    have D0 := (D.keep (bel1 (.cells #[.string ⟨#[]⟩, .string ⟨#[]⟩, .int .i64 0, .int .i64 0, .int .i64 0] 127))).keep (bel1 (.cells #[.bool false] 4))
    have bF0 := (Blk.new W #[.string ⟨#[]⟩, .string ⟨#[]⟩, .int .i64 0, .int .i64 0, .int .i64 0] 127).keep (bel1 (.cells #[.bool false] 4))
    have bG0 := Blk.new (W.alloc (.cells #[.string ⟨#[]⟩, .string ⟨#[]⟩, .int .i64 0, .int .i64 0, .int .i64 0] 127)) #[.bool false] 4
    have bA0 := Blk.new ((W.alloc (.cells #[.string ⟨#[]⟩, .string ⟨#[]⟩, .int .i64 0, .int .i64 0, .int .i64 0] 127)).alloc (.cells #[.bool false] 4)) #[.slice t.a t.l.length t.cap] 130
    have bC0 := Blk.new (((W.alloc (.cells #[.string ⟨#[]⟩, .string ⟨#[]⟩, .int .i64 0, .int .i64 0, .int .i64 0] 127)).alloc (.cells #[.bool false] 4)).alloc (.cells #[.slice t.a t.l.length t.cap] 130)) #[.slice u.a u.l.length u.cap] 130
    have K3 := bel2 (w := (W.alloc (.cells #[.string ⟨#[]⟩, .string ⟨#[]⟩, .int .i64 0, .int .i64 0, .int .i64 0] 127)).alloc (.cells #[.bool false] 4)) (.cells #[.slice t.a t.l.length t.cap] 130) (.cells #[.slice u.a u.l.length u.cap] 130)
    have D1 := D0.keep K3
    have bF1 := bF0.keep K3
    have bG1 := bG0.keep K3
    have bA1 := bA0.keep (bel1 (.cells #[.slice u.a u.l.length u.cap] 130))
    have sz0 : ((((W.alloc (.cells #[.string ⟨#[]⟩, .string ⟨#[]⟩, .int .i64 0, .int .i64 0, .int .i64 0] 127)).alloc (.cells #[.bool false] 4)).alloc (.cells #[.slice t.a t.l.length t.cap] 130)).alloc (.cells #[.slice u.a u.l.length u.cap] 130)).heap.size = W.heap.size + 4 := by simp
    simp only [World.size_alloc] at bG1 bA1 bC0
    clear D0 bF0 bG0 bA0 K3 n0 n1 n2 n3 d0 d1 d2 d3 D
    generalize (((W.alloc (.cells #[.string ⟨#[]⟩, .string ⟨#[]⟩, .int .i64 0, .int .i64 0, .int .i64 0] 127)).alloc (.cells #[.bool false] 4)).alloc (.cells #[.slice t.a t.l.length t.cap] 130)).alloc (.cells #[.slice u.a u.l.length u.cap] 130) = W0 at *
    have hfin : ∀ (Dn : Nat) (X : World) (st : Cl), W0.heap.size ≤ Dn → meetOf t.l u.l (pairsN u.l.length t.l.length) = st → MeetI w X t u B E W.heap.size st → X.heap[Dn]? = some (.deferred (some [])) → K2 { tmps := #[t.val, u.val, .pointer (some ⟨w.heap.size, 0, none⟩), .pointer (some ⟨w.heap.size + 1, 0, none⟩), .pointer (some ⟨w.heap.size + 1 + 1, 0, none⟩), .bool false, .pointer (some ⟨B, 0, none⟩), .pointer (some ⟨W.heap.size, 0, none⟩), .pointer (some ⟨W.heap.size + 1, 0, none⟩), undef, undef, undef, undef, .agg #[.string t.nm, .slice t.a t.l.length t.cap], .bool true, .bool false, .bool false, .agg #[.string u.nm, .slice u.a u.l.length u.cap], .bool true, .bool false, .bool false, undef, .agg #[.string t.nm, .slice t.a t.l.length t.cap], .agg #[.string t.nm, .slice t.a t.l.length t.cap], .slice t.a t.l.length t.cap, .int .i64 (beginB t.l), .agg #[.string u.nm, .slice u.a u.l.length u.cap], .agg #[.string u.nm, .slice u.a u.l.length u.cap], .slice u.a u.l.length u.cap, .int .i64 (beginB u.l), .int .i64 E, .pointer (some ⟨w.heap.size, 1, none⟩), .slice t.a t.l.length t.cap, .pointer (some ⟨w.heap.size + 1, 1, none⟩), .slice u.a u.l.length u.cap, .func (.func 168) #[] #[.pointer (some ⟨W.heap.size + 1 + 1, 0, none⟩), .pointer (some ⟨W.heap.size + 1 + 1 + 1, 0, none⟩)], undef, undef, undef, undef, undef, undef, undef, undef, undef, undef, undef, undef, undef, undef, undef, undef, undef, undef, undef, undef, undef, undef, undef, undef, undef, undef, undef, undef, undef, undef, undef, undef, undef, undef, undef, undef, undef, undef, undef, undef], defers := [{ target := .collected Dn, args := #[] }] } X := by
      intro Dn X st hD hst hI hK4
      have HST : Hid (meetTB t u = st) := G.out.trans hst
      clear hst
      refine aK2 _ _ ?_
      obtain ⟨g0, gf⟩ := hI.found.one
      have HB := hI.all.all.old
      have hr := hI.all.all.res
      have hfst := hI.first
      obtain ⟨r0, r1, r2, r3, r4, rf⟩ := blk5 hr
      cases st with
      | none =>
        obtain ⟨b0, b1, b2, b3, b4, bf⟩ := blk5 (show X.heap[W.heap.size]? = some (.cells #[.string ⟨#[]⟩, .string ⟨#[]⟩, .int .i64 0, .int .i64 0, .int .i64 0] 127 (0, 0)) from hfst)
        clear hfst hI
        go_wp2
        go_region_held3 (fun w' => w'.cell? ⟨W.heap.size, 0, none⟩ = some (.string ⟨#[]⟩) ∧ w'.cell? ⟨W.heap.size, 1, none⟩ = some (.string ⟨#[]⟩) ∧ w'.cell? ⟨W.heap.size, 2, none⟩ = some (.int .i64 0) ∧ w'.cell? ⟨W.heap.size, 3, none⟩ = some (.int .i64 0) ∧ w'.cell? ⟨W.heap.size, 4, none⟩ = some (.int .i64 0) ∧ w'.cell? ⟨W.heap.size + 1, 0, none⟩ = some (.bool (Option.isSome (none : Cl))))
          (simp [go_sem, *])
          (fail)
        have hY := blk5_set hr (.string ⟨#[]⟩) (.string ⟨#[]⟩) (.int .i64 0) (.int .i64 0) (.int .i64 0)
        have hK5 : (((((X.setCell ⟨w.heap.size + 1 + 1, 0, none⟩ (.string ⟨#[]⟩)).setCell ⟨w.heap.size + 1 + 1, 1, none⟩ (.string ⟨#[]⟩)).setCell ⟨w.heap.size + 1 + 1, 2, none⟩ (.int .i64 0)).setCell ⟨w.heap.size + 1 + 1, 3, none⟩ (.int .i64 0)).setCell ⟨w.heap.size + 1 + 1, 4, none⟩ (.int .i64 0)).heap[Dn]? = some (.deferred (some [])) := by
          iterate 5 rw [heap_setCell_other _ _ _ _ (by show Dn ≠ w.heap.size + 1 + 1; omega)]
          exact hK4
        have HBY : Below w.heap.size w (((((X.setCell ⟨w.heap.size + 1 + 1, 0, none⟩ (.string ⟨#[]⟩)).setCell ⟨w.heap.size + 1 + 1, 1, none⟩ (.string ⟨#[]⟩)).setCell ⟨w.heap.size + 1 + 1, 2, none⟩ (.int .i64 0)).setCell ⟨w.heap.size + 1 + 1, 3, none⟩ (.int .i64 0)).setCell ⟨w.heap.size + 1 + 1, 4, none⟩ (.int .i64 0)) := by
          iterate 5 (refine Below.setCell ?_ (by simp; omega) _)
          exact HB
        clear b0 b1 b2 b3 b4 bf r0 r1 r2 r3 r4 rf g0 gf hr hK4 HB
        generalize (((((X.setCell ⟨w.heap.size + 1 + 1, 0, none⟩ (.string ⟨#[]⟩)).setCell ⟨w.heap.size + 1 + 1, 1, none⟩ (.string ⟨#[]⟩)).setCell ⟨w.heap.size + 1 + 1, 2, none⟩ (.int .i64 0)).setCell ⟨w.heap.size + 1 + 1, 3, none⟩ (.int .i64 0)).setCell ⟨w.heap.size + 1 + 1, 4, none⟩ (.int .i64 0)) = Y at *
        have hY2 : (Y.drew.putObj Dn (.deferred none)).heap[w.heap.size + 1 + 1]? = some (.cells #[.string ⟨#[]⟩, .string ⟨#[]⟩, .int .i64 0, .int .i64 0, .int .i64 0] 127 (0, 0)) := (World.putObj_heap_other (by omega)).trans hY
        obtain ⟨y0, y1, y2, y3, y4, yf⟩ := blk5 hY2
        go_wp2
        refine ⟨by simp, .inl ⟨_, _, rfl, run_takeDeferred (w := Y.drew) hK5, ?_⟩⟩
        refine ⟨.tuple #[.agg #[.string ⟨#[]⟩, .string ⟨#[]⟩, .int .i64 0, .int .i64 0, .int .i64 0], .bool false], ?_, by rw [HST.out]; rfl, (HBY.drew).trans (belowK_b (w := w) (Nat.le_refl _) Y.drew Dn _ _ (by omega) hK5 rfl rfl)⟩
        simp [results, Tryz.f128, go_sem, y0, y1, y2, y3, y4]
      | some z =>
        obtain ⟨zt, zi, zj⟩ := z
        obtain ⟨b0, b1, b2, b3, b4, bf⟩ := blk5 (show X.heap[W.heap.size]? = some (.cells #[.string t.nm, .string u.nm, .int .i64 zt, .int .i64 zi, .int .i64 zj] 127 (0, 0)) from hfst)
        clear hfst hI
        go_wp2
        go_region_held3 (fun w' => w'.cell? ⟨W.heap.size, 0, none⟩ = some (.string t.nm) ∧ w'.cell? ⟨W.heap.size, 1, none⟩ = some (.string u.nm) ∧ w'.cell? ⟨W.heap.size, 2, none⟩ = some (.int .i64 zt) ∧ w'.cell? ⟨W.heap.size, 3, none⟩ = some (.int .i64 zi) ∧ w'.cell? ⟨W.heap.size, 4, none⟩ = some (.int .i64 zj) ∧ w'.cell? ⟨W.heap.size + 1, 0, none⟩ = some (.bool (Option.isSome (some (zt, zi, zj) : Cl))))
          (simp [go_sem, *])
          (fail)
        have hY := blk5_set hr (.string t.nm) (.string u.nm) (.int .i64 zt) (.int .i64 zi) (.int .i64 zj)
        have hK5 : (((((X.setCell ⟨w.heap.size + 1 + 1, 0, none⟩ (.string t.nm)).setCell ⟨w.heap.size + 1 + 1, 1, none⟩ (.string u.nm)).setCell ⟨w.heap.size + 1 + 1, 2, none⟩ (.int .i64 zt)).setCell ⟨w.heap.size + 1 + 1, 3, none⟩ (.int .i64 zi)).setCell ⟨w.heap.size + 1 + 1, 4, none⟩ (.int .i64 zj)).heap[Dn]? = some (.deferred (some [])) := by
          iterate 5 rw [heap_setCell_other _ _ _ _ (by show Dn ≠ w.heap.size + 1 + 1; omega)]
          exact hK4
        have HBY : Below w.heap.size w (((((X.setCell ⟨w.heap.size + 1 + 1, 0, none⟩ (.string t.nm)).setCell ⟨w.heap.size + 1 + 1, 1, none⟩ (.string u.nm)).setCell ⟨w.heap.size + 1 + 1, 2, none⟩ (.int .i64 zt)).setCell ⟨w.heap.size + 1 + 1, 3, none⟩ (.int .i64 zi)).setCell ⟨w.heap.size + 1 + 1, 4, none⟩ (.int .i64 zj)) := by
          iterate 5 (refine Below.setCell ?_ (by simp; omega) _)
          exact HB
        clear b0 b1 b2 b3 b4 bf r0 r1 r2 r3 r4 rf g0 gf hr hK4 HB
        generalize (((((X.setCell ⟨w.heap.size + 1 + 1, 0, none⟩ (.string t.nm)).setCell ⟨w.heap.size + 1 + 1, 1, none⟩ (.string u.nm)).setCell ⟨w.heap.size + 1 + 1, 2, none⟩ (.int .i64 zt)).setCell ⟨w.heap.size + 1 + 1, 3, none⟩ (.int .i64 zi)).setCell ⟨w.heap.size + 1 + 1, 4, none⟩ (.int .i64 zj)) = Y at *
        have hY2 : (Y.drew.putObj Dn (.deferred none)).heap[w.heap.size + 1 + 1]? = some (.cells #[.string t.nm, .string u.nm, .int .i64 zt, .int .i64 zi, .int .i64 zj] 127 (0, 0)) := (World.putObj_heap_other (by omega)).trans hY
        obtain ⟨y0, y1, y2, y3, y4, yf⟩ := blk5 hY2
        go_wp2
        refine ⟨by simp, .inl ⟨_, _, rfl, run_takeDeferred (w := Y.drew) hK5, ?_⟩⟩
        refine ⟨.tuple #[.agg #[.string t.nm, .string u.nm, .int .i64 zt, .int .i64 zi, .int .i64 zj], .bool true], ?_, by rw [HST.out]; rfl, (HBY.drew).trans (belowK_b (w := w) (Nat.le_refl _) Y.drew Dn _ _ (by omega) hK5 rfl rfl)⟩
        simp [results, Tryz.f128, go_sem, y0, y1, y2, y3, y4]
    refine (wpIn_wide (n := 4)).1 ?_
    refine wpIn_rangeFunc_ownH rfl (by omega) (gf := 168) (lb := #[.pointer (some ⟨W.heap.size + 1 + 1, 0, none⟩), .pointer (some ⟨W.heap.size + 1 + 1 + 1, 0, none⟩)]) rfl trivial (enters_of Tryz.func168 (by kernel_rfl) rfl)
      (bp_stops _ (by omega) (W.heap.size + 1 + 1) (W.heap.size + 1 + 1 + 1) t.l.length u.l.length t.cap u.cap t.a u.a hl hm W0 (by omega) (by omega) bA1.one.1 bC0.one.1) KeepP.trans (KeepP.putObj (by omega) (by omega)) (Below.refl _ _) (fun _ => rfl)
      (fun pre X => MeetI w X t u B E W.heap.size (meetOf t.l u.l (pre.map vp)))
      (fun c pre X => (c = .exit 0 ∧ ∃ z, meetOf t.l u.l (pre.map vp) = some z ∧ z.1 ≤ E) ∧ MeetI w X t u B E W.heap.size (meetOf t.l u.l (pre.map vp)))
      (meetI_own (by have := D1.all.old.size; omega) (by omega) (by omega) (fun pre => meetOf t.l u.l (List.map vp pre)))
      (fun c => OwnFrom.and (ownFrom_pure _ _) (meetI_own (by have := D1.all.old.size; omega) (by omega) (by omega) (fun pre => meetOf t.l u.l (List.map vp pre))))
      ⟨D1, bF1, bG1⟩
      (fun x a' X => a' = { tmps := #[t.val, u.val, .pointer (some ⟨w.heap.size, 0, none⟩), .pointer (some ⟨w.heap.size + 1, 0, none⟩), .pointer (some ⟨w.heap.size + 1 + 1, 0, none⟩), .bool false, .pointer (some ⟨B, 0, none⟩), .pointer (some ⟨W.heap.size, 0, none⟩), .pointer (some ⟨W.heap.size + 1, 0, none⟩), .int .i64 x.1.val, .int .i64 x.2.val, undef, undef, .agg #[.string t.nm, .slice t.a t.l.length t.cap], .bool true, .bool false, .bool false, .agg #[.string u.nm, .slice u.a u.l.length u.cap], .bool true, .bool false, .bool false, undef, .agg #[.string t.nm, .slice t.a t.l.length t.cap], .agg #[.string t.nm, .slice t.a t.l.length t.cap], .slice t.a t.l.length t.cap, .int .i64 (beginB t.l), .agg #[.string u.nm, .slice u.a u.l.length u.cap], .agg #[.string u.nm, .slice u.a u.l.length u.cap], .slice u.a u.l.length u.cap, .int .i64 (beginB u.l), .int .i64 E, .pointer (some ⟨w.heap.size, 1, none⟩), .slice t.a t.l.length t.cap, .pointer (some ⟨w.heap.size + 1, 1, none⟩), .slice u.a u.l.length u.cap, .func (.func 168) #[] #[.pointer (some ⟨W.heap.size + 1 + 1, 0, none⟩), .pointer (some ⟨W.heap.size + 1 + 1 + 1, 0, none⟩)], .int .i64 x.1.val, .int .i64 x.2.val, undef, undef, undef, undef, undef, undef, undef, undef, undef, undef, undef, undef, undef, undef, undef, undef, undef, undef, undef, undef, undef, undef, undef, undef, undef, undef, undef, undef, undef, undef, undef, undef, undef, undef, undef, undef, undef, undef], defers := [] })
      (fun x a' _ X Y row hs' hg hr => hs')
      ?assign ?body ?done ?stop
    case assign =>
      rintro lp pre x X K4 hI hK4
      gi_wp2
      exact hK4 _ _ (KeepsFrom.refl _ _) (KeepP.refl _ _ _) hI rfl
    case body =>
      rintro lp pre x a' X hlp ⟨lr, hlr⟩ hI rfl hlt
      have hX : W.heap.size + 4 ≤ X.heap.size := by have := (Array.getElem?_eq_some_iff.1 hlr).1; omega
      clear hlr
      obtain ⟨i, hi⟩ : ∃ i, x.1.val = i := ⟨_, rfl⟩
      obtain ⟨j, hj⟩ : ∃ j, x.2.val = j := ⟨_, rfl⟩
      have hil : i < t.l.length := by rw [← hi]; exact x.1.isLt
      have hjl : j < u.l.length := by rw [← hj]; exact x.2.isLt
      have HPR : Hid (meetOf t.l u.l ((pre ++ [x]).map vp) = meetStep t.l u.l (meetOf t.l u.l (pre.map vp)) (i, j)) := by show _ = _; rw [List.map_append, ← hi, ← hj]; exact meetOf_snoc _ _ _ _
      have HIN : Hid (∀ Y st, meetOf t.l u.l ((pre ++ [x]).map vp) = st → MeetI w Y t u B E W.heap.size st → MeetI w Y t u B E W.heap.size (meetOf t.l u.l ((pre ++ [x]).map vp))) := fun Y st h h' => by rw [h]; exact h'
      rw [hi, hj]
      obtain ⟨s, hsk⟩ : ∃ s, t.l[i]? = some s := ⟨t.l[i], List.getElem?_eq_getElem hil⟩
      obtain ⟨v, hvk⟩ : ∃ v, u.l[j]? = some v := ⟨u.l[j], List.getElem?_eq_getElem hjl⟩
      have hne : t.l ≠ [] := by intro e; rw [e] at hil; simp at hil
      have hne' : u.l ≠ [] := by intro e; rw [e] at hjl; simp at hjl
      have hbi := hI.all.all.old
      have hsX := (ht.below hbi).at_
      have hvX := (hu.below hbi).at_
      have ea := hsX.here hne
      have eb := hvX.here hne'
      have hbx := hsX.lt hne
      have hbx' := hvX.lt hne'
      obtain ⟨x0, x1, x2, x3, x4, x5⟩ := hsX.six hsk
      obtain ⟨y0, y1, y2, y3, y4, y5⟩ := hvX.six hvk
      obtain ⟨c0, c1, c2, c3⟩ := hI.all.cells
      have HS : Hid (bxAt t.l i = s) := bxAt_get hsk
      have HV : Hid (bxAt u.l j = v) := bxAt_get hvk
      have i0 : (0 : Int) ≤ (i : Int) := by omega
      have i1 : (i : Int) < (t.l.length : Int) := by omega
      have j0 : (0 : Int) ≤ (j : Int) := by omega
      have j1 : (j : Int) < (u.l.length : Int) := by omega
      have qn := Cls.any X
      have q0 := Cls.cell hbx
      have q1 := Cls.cell hbx'
      have q2 := Cls.cell hI.all.all.one.lt
      have q3 := Cls.cell hI.all.all.two.lt
      clear hsk hvk hsX hvX hi hj
      have HSTP : Hid (meetOf t.l u.l (pre.map vp) = meetOf t.l u.l (pre.map vp)) := rfl
      clear HSTP
      obtain ⟨st, hst⟩ : ∃ st, meetOf t.l u.l (pre.map vp) = st := ⟨_, rfl⟩
      rw [hst] at hI HPR
      clear hst
      cases hc : closeB s v with
      | false =>
        have HN : Hid (meetOf t.l u.l ((pre ++ [x]).map vp) = st) := by show _ = _; rw [HPR.out]; exact step_no1 (by show closeB (bxAt t.l i) (bxAt u.l j) = false; rw [HS.out, HV.out, hc])
        have HC : Hid (closeB s v = false) := hc
        have CL : ∀ uu : Cls X, Calls Tryz.prog 154 #[s.val, v.val] uu.it fun e w' => e = .returned (.tuple #[.int .i64 (closeT s v), .bool false]) ∧ Below uu.it.heap.size uu.it w' := fun uu => by rw [← HC.out]; exact close_any s v _
        clear hc
        generalize closeT s v = ct at *
        gi_wp2
        refine wpIn_region_cls (by kernel_rfl) (by kernel_rfl) (by kernel_rfl) (by rintro ⟨a, w, h, _⟩) ?_
        repeat (go_big_quiet_step ((go_at_call 154; exact Calls.cls_of (CL _))))
        refine wpQuiet_nil ?_
        rintro _ ⟨uu, rfl⟩
        have I1 := hI.keep uu.same
        have KO := others_below uu.same
        have KP := KeepP.below (Ba := W.heap.size + 1 + 1) (Bb := W.heap.size + 1 + 1 + 1) (by omega) (by omega) uu.same
        clear x0 x1 x2 x3 x4 x5 y0 y1 y2 y3 y4 y5 c0 c1 c2 c3 q0 q1 q2 q3 qn CL ea eb
        generalize uu.it = Y at *
        gi_wp2
        have HQ := HIN.out _ _ HN.out I1
        exact ⟨KO.from _, KP, HQ⟩
      | true =>
        have HC : Hid (closeB s v = true) := hc
        have CL : ∀ uu : Cls X, Calls Tryz.prog 154 #[s.val, v.val] uu.it fun e w' => e = .returned (.tuple #[.int .i64 (closeT s v), .bool true]) ∧ Below uu.it.heap.size uu.it w' := fun uu => by rw [← HC.out]; exact close_any s v _
        have HY1 : Hid (st = none → meetOf t.l u.l ((pre ++ [x]).map vp) = some (closeT s v, i, j)) := fun e => by rw [HPR.out, e, step_yes1 (p := (i, j)) (by show closeB (bxAt t.l i) (bxAt u.l j) = true; rw [HS.out, HV.out, HC.out])]; simp only; rw [HS.out, HV.out]
        have HY2 : Hid (∀ z, st = some z → closeT s v < z.1 → meetOf t.l u.l ((pre ++ [x]).map vp) = some (closeT s v, i, j)) := fun z e hz => by rw [HPR.out, e, step_yes2 (p := (i, j)) (by show closeB (bxAt t.l i) (bxAt u.l j) = true; rw [HS.out, HV.out, HC.out]) (by show closeT (bxAt t.l i) (bxAt u.l j) < _; rw [HS.out, HV.out]; exact hz)]; simp only; rw [HS.out, HV.out]
        have HY3 : Hid (∀ z, st = some z → z.1 ≤ closeT s v → meetOf t.l u.l ((pre ++ [x]).map vp) = some z) := fun z e hz => by rw [HPR.out, e]; exact step_no2 (by show _ ≤ closeT (bxAt t.l i) (bxAt u.l j); rw [HS.out, HV.out]; exact hz)
        clear hc
        generalize closeT s v = ct at *
        cases st with
        | none =>
          have HN : Hid (meetOf t.l u.l ((pre ++ [x]).map vp) = some (ct, i, j)) := HY1.out rfl
          gi_wp2
          refine wpIn_region_cls (by kernel_rfl) (by kernel_rfl) (by kernel_rfl) (by rintro ⟨a, w, h, _⟩) ?_
          repeat (go_big_quiet_step ((go_at_call 154; exact Calls.cls_of (CL _))))
          refine wpQuiet_nil ?_
          rintro _ ⟨uu, rfl⟩
          have I1 := hI.keep uu.same
          have KO := others_below uu.same
          have KP := KeepP.below (Ba := W.heap.size + 1 + 1) (Bb := W.heap.size + 1 + 1 + 1) (by omega) (by omega) uu.same
          clear x0 x1 x2 x3 x4 x5 y0 y1 y2 y3 y4 y5 c0 c1 c2 c3 q0 q1 q2 q3 qn CL ea eb
          generalize uu.it = Y at *
          obtain ⟨f0, f1, f2, f3, f4, ff⟩ := blk5 I1.first
          obtain ⟨g0, gf⟩ := I1.found.one
          obtain ⟨e0, ef⟩ := I1.all.box.one
          obtain ⟨c0, c1, c2, c3⟩ := I1.all.cells
          have HP2 := I1.put (by omega) (by omega) ct i j
          have KO2 := others_put KO W.heap.size (.string t.nm) (.string u.nm) (.int .i64 ct) (.int .i64 i) (.int .i64 j) (.bool true)
          have KP2 := keepP_put KP W.heap.size (by omega) (by omega) (.string t.nm) (.string u.nm) (.int .i64 ct) (.int .i64 i) (.int .i64 j) (.bool true)
          have e1 : (Y.setCell ⟨W.heap.size, 0, none⟩ (.string t.nm)).cell? ⟨B, 0, none⟩ = some (.int .i64 E) := (I1.all.set (p := ⟨W.heap.size, 0, none⟩) (by show _ < W.heap.size; omega) (by show W.heap.size ≠ B; omega) _).box.one.1
          have e6 := HP2.all.box.one.1
          by_cases hE : ct = E
          · have hE' : (ct == E) = true := by simpa using hE
            have HZ : Hid (ct ≤ E) := by show _ ≤ _; omega
            clear hE
            gi_wp2
            have HQ := HIN.out _ _ HN.out HP2
            exact ⟨KO2.from _, ⟨rfl, (ct, i, j), HN.out, HZ.out⟩, HQ⟩
          · have hE' : (ct == E) = false := by simpa using hE
            clear hE
            gi_wp2
            have HQ := HIN.out _ _ HN.out HP2
            exact ⟨KO2.from _, KP2, HQ⟩
        | some z =>
          obtain ⟨zt, zi, zj⟩ := z
          by_cases hz : zt ≤ ct
          · have HN : Hid (meetOf t.l u.l ((pre ++ [x]).map vp) = some (zt, zi, zj)) := HY3.out _ rfl hz
            gi_wp2
            refine wpIn_region_cls (by kernel_rfl) (by kernel_rfl) (by kernel_rfl) (by rintro ⟨a, w, h, _⟩) ?_
            repeat (go_big_quiet_step ((go_at_call 154; exact Calls.cls_of (CL _))))
            refine wpQuiet_nil ?_
            rintro _ ⟨uu, rfl⟩
            have I1 := hI.keep uu.same
            have KO := others_below uu.same
            have KP := KeepP.below (Ba := W.heap.size + 1 + 1) (Bb := W.heap.size + 1 + 1 + 1) (by omega) (by omega) uu.same
            clear x0 x1 x2 x3 x4 x5 y0 y1 y2 y3 y4 y5 c0 c1 c2 c3 q0 q1 q2 q3 qn CL ea eb
            generalize uu.it = Y at *
            obtain ⟨f0, f1, f2, f3, f4, ff⟩ := blk5 I1.first
            obtain ⟨g0, gf⟩ := I1.found.one
            obtain ⟨e0, ef⟩ := I1.all.box.one
            obtain ⟨c0, c1, c2, c3⟩ := I1.all.cells
            gi_wp2
            have HQ := HIN.out _ _ HN.out I1
            exact ⟨KO.from _, KP, HQ⟩
          · have HN : Hid (meetOf t.l u.l ((pre ++ [x]).map vp) = some (ct, i, j)) := HY2.out _ rfl (by show ct < zt; omega)
            have hz' : decide (zt ≤ ct) = false := by simpa using hz
            clear hz
            gi_wp2
            refine wpIn_region_cls (by kernel_rfl) (by kernel_rfl) (by kernel_rfl) (by rintro ⟨a, w, h, _⟩) ?_
            repeat (go_big_quiet_step ((go_at_call 154; exact Calls.cls_of (CL _))))
            refine wpQuiet_nil ?_
            rintro _ ⟨uu, rfl⟩
            have I1 := hI.keep uu.same
            have KO := others_below uu.same
            have KP := KeepP.below (Ba := W.heap.size + 1 + 1) (Bb := W.heap.size + 1 + 1 + 1) (by omega) (by omega) uu.same
            clear x0 x1 x2 x3 x4 x5 y0 y1 y2 y3 y4 y5 c0 c1 c2 c3 q0 q1 q2 q3 qn CL ea eb
            generalize uu.it = Y at *
            have f2 := (blk5 I1.first).2.2.1
            have ff := (blk5 I1.first).2.2.2.2.2
            obtain ⟨q0, f0⟩ : ∃ q, Y.cell? ⟨W.heap.size, 0, none⟩ = some q := ⟨_, (blk5 I1.first).1⟩
            obtain ⟨q1, f1⟩ : ∃ q, Y.cell? ⟨W.heap.size, 1, none⟩ = some q := ⟨_, (blk5 I1.first).2.1⟩
            obtain ⟨q3, f3⟩ : ∃ q, Y.cell? ⟨W.heap.size, 3, none⟩ = some q := ⟨_, (blk5 I1.first).2.2.2.1⟩
            obtain ⟨q4, f4⟩ : ∃ q, Y.cell? ⟨W.heap.size, 4, none⟩ = some q := ⟨_, (blk5 I1.first).2.2.2.2.1⟩
            obtain ⟨g0, gf⟩ := I1.found.one
            obtain ⟨e0, ef⟩ := I1.all.box.one
            obtain ⟨c0, c1, c2, c3⟩ := I1.all.cells
            have HP2 := I1.put (by omega) (by omega) ct i j
            have KO2 := others_put KO W.heap.size (.string t.nm) (.string u.nm) (.int .i64 ct) (.int .i64 i) (.int .i64 j) (.bool true)
            have KP2 := keepP_put KP W.heap.size (by omega) (by omega) (.string t.nm) (.string u.nm) (.int .i64 ct) (.int .i64 i) (.int .i64 j) (.bool true)
            have e1 : (Y.setCell ⟨W.heap.size, 0, none⟩ (.string t.nm)).cell? ⟨B, 0, none⟩ = some (.int .i64 E) := (I1.all.set (p := ⟨W.heap.size, 0, none⟩) (by show _ < W.heap.size; omega) (by show W.heap.size ≠ B; omega) _).box.one.1
            have e6 := HP2.all.box.one.1
            by_cases hE : ct = E
            · have hE' : (ct == E) = true := by simpa using hE
              have HZ : Hid (ct ≤ E) := by show _ ≤ _; omega
              clear hE
              gi_wp2
              have HQ := HIN.out _ _ HN.out HP2
              exact ⟨KO2.from _, ⟨rfl, (ct, i, j), HN.out, HZ.out⟩, HQ⟩
            · have hE' : (ct == E) = false := by simpa using hE
              clear hE
              gi_wp2
              have HQ := HIN.out _ _ HN.out HP2
              exact ⟨KO2.from _, KP2, HQ⟩
    case done =>
      rintro Dn zs X hD hzs hI hK4
      exact hfin Dn X _ hD (by rw [← hzs]) hI hK4
    case stop =>
      rintro Dn c pre X hD ⟨post, hpost⟩ ⟨⟨rfl, z, hz, hzE⟩, hI⟩ hK4
      gi_wp2
      refine hfin Dn X _ hD ?_ hI hK4
      rw [hz, hpost]
      exact meet_early (fun p hp => pairsN_mem (by rw [hpost]; exact hp)) hz (by rw [HE'.out]; exact hzE)
  go_region_held3 (fun w' => w'.cell? ⟨w.heap.size, 0, none⟩ = some (.string t.nm) ∧ w'.cell? ⟨w.heap.size, 1, none⟩ = some (.slice t.a t.l.length t.cap) ∧ w'.cell? ⟨w.heap.size + 1, 0, none⟩ = some (.string u.nm) ∧ w'.cell? ⟨w.heap.size + 1, 1, none⟩ = some (.slice u.a u.l.length u.cap))
    (first | exact M7.cells | exact M6.cells | exact M5.cells | exact M4.cells | exact M3.cells | exact (M7.keep (bel1 _)).cells | exact (M6.keep (bel1 _)).cells | exact (M5.keep (bel1 _)).cells | exact (M4.keep (bel1 _)).cells | exact (M3.keep (bel1 _)).cells | exact (M7.put _).cells)
    (first
      | (go_at_call 152; have hz := hb6; clear hz; refine (begin_any _ u.b u.o _ u.l _ hm (by first | exact (hu.below M6.old).at_ | exact (hu.below M6.all.old).at_ | exact (hu.below (M6.keep (bel1 _)).old).at_)).mono ?_; rintro e w7 ⟨rfl, hb7⟩; first | (have M7 := M6.keep hb7; try (have zc := M7.box.one.1; have zf := M7.box.one.2)) | (have M7 := (MeetE.new M6 0).keep hb7; have zc := M7.box.one.1; have zf := M7.box.one.2))
      | (go_at_call 151; have hz := hb5; clear hz; refine (lane_at u.nm u.a u.cap u.l _).mono ?_; rintro e w6 ⟨rfl, hb6⟩; first | (have M6 := M5.keep hb6; try (have zc := M6.box.one.1; have zf := M6.box.one.2)) | (have M6 := (MeetE.new M5 0).keep hb6; have zc := M6.box.one.1; have zf := M6.box.one.2))
      | (go_at_call 152; refine (begin_any _ t.b t.o _ t.l _ hl (by first | exact (ht.below M4.old).at_ | exact (ht.below M4.all.old).at_ | exact (ht.below (M4.keep (bel1 _)).old).at_)).mono ?_; rintro e w5 ⟨rfl, hb5⟩; first | (have M5 := M4.keep hb5; try (have zc := M5.box.one.1; have zf := M5.box.one.2)) | (have M5 := (MeetE.new M4 0).keep hb5; have zc := M5.box.one.1; have zf := M5.box.one.2))
      | (go_at_call 151; refine (lane_at t.nm t.a t.cap t.l _).mono ?_; rintro e w4 ⟨rfl, hb4⟩; first | (have M4 := M3.keep hb4) | (have M4 : MeetE w w4 t u w2.heap.size 0 := (MeetE.new M3 0).keep hb4; have zc := M4.box.one.1; have zf := M4.box.one.2)))
  all_goals
    first
      | exact hrest _ _ _ (MeetE.new M7 _) (by split <;> omega)
      | exact hrest _ _ _ (M7.put _) (by split <;> omega)
end Go.Proofs.YtgjleeamhkolhaaGreatDoor

namespace Go.Proofs.YtgjleeamhkolhaaGreatDoor
open Go.RowKit Go.Shelf

theorem meetI_any (t u : Tb) (w : World) (hl : t.l.length ≤ 1048576) (hm : u.l.length ≤ 1048576) (ht : TubeAt w t) (hu : TubeAt w u) :
    Calls Tryz.prog 128 #[t.val, u.val] w fun e w' => e = .returned (.tuple #[.agg (clashC t.nm u.nm (meetTB t u)), .bool (meetTB t u).isSome]) ∧ Below w.heap.size w w' := by
  cases h1 : tubeB t
  · exact meetI_no t u w hl hm ht hu (.inl h1)
  cases h2 : tubeB u
  · exact meetI_no t u w hl hm ht hu (.inr ⟨h1, h2⟩)
  · exact meetI_yes t u w hl hm ht hu h1 h2
end Go.Proofs.YtgjleeamhkolhaaGreatDoor

namespace Go.Proofs.YtgjleeamhkolhaaGreatDoor
open Go.RowKit

theorem clashC_five (x y : ByteArray) (c : Cl) : ∃ s1 s2 i1 i2 i3, clashC x y c = #[.string s1, .string s2, .int .i64 i1, .int .i64 i2, .int .i64 i3] := by
  rcases c with _ | ⟨t, i, j⟩
  · exact ⟨_, _, _, _, _, rfl⟩
  · exact ⟨_, _, _, _, _, rfl⟩
theorem namesT_apart {a b : ByteArray} (h : ¬ a = b) : (a.toList == b.toList) = false := by
  cases hh : (a.toList == b.toList) with
  | false => rfl
  | true =>
    rw [ByteArray.toList_eq, ByteArray.toList_eq] at hh
    have e := eq_of_beq hh
    obtain ⟨⟨x⟩⟩ := a
    obtain ⟨⟨y⟩⟩ := b
    exact absurd (by simp at e; subst e; rfl) h
end Go.Proofs.YtgjleeamhkolhaaGreatDoor

namespace Go.Proofs.YtgjleeamhkolhaaGreatDoor
open Go.RowKit

/-- One of these has another name, and comes too near. -/
def othersB (t : Tb) (nm : ByteArray) (ts : List Tb) : Bool := ts.any fun o => !decide (o.nm = nm) && (meetTB t o).isSome
theorem others_not {t : Tb} {nm : ByteArray} {ts : List Tb} {k : Nat} {o : Tb} (h : othersB t nm (ts.take k) = false) (ho : ts[k]? = some o) (hn : (!decide (o.nm = nm) && (meetTB t o).isSome) = false) : othersB t nm (ts.take (k + 1)) = false := by
  unfold othersB at h ⊢
  rw [List.take_add_one, ho, List.any_append, h]
  simpa using hn
theorem others_hit {t : Tb} {nm : ByteArray} {ts : List Tb} {k : Nat} {o : Tb} (ho : ts[k]? = some o) (hn : (!decide (o.nm = nm) && (meetTB t o).isSome) = true) : othersB t nm ts = true :=
  List.any_eq_true.2 ⟨o, List.mem_of_getElem? ho, hn⟩

set_option maxHeartbeats 4000000 in
set_option maxRecDepth 20000 in
theorem others_any (t : Tb) (nm : ByteArray) (a : Option Addr) (b o cap : Nat) (ts : List Tb) (w : World) (hl : ts.length ≤ 1048576) (htl : t.l.length ≤ 1048576) (hsm : ∀ u ∈ ts, u.l.length ≤ 1048576) (ht : TubeAt w t) (hs : TubesAt w a b o ts) :
    Calls Tryz.prog 99 #[t.val, .string nm, .slice a ts.length cap] w fun e w' => e = .returned (.bool (othersB t nm ts)) ∧ Below w.heap.size w w' := by
  have B0 := bel1 (w := w) (.cells #[.string t.nm, .slice t.a t.l.length t.cap] 132)
  have X0 := heap_alloc_new w (.cells #[.string t.nm, .slice t.a t.l.length t.cap] 132)
  go_enter Tryz.func99, Tryz.ntmps99
  go_wp2
  obtain ⟨W0, hW0⟩ : ∃ W0, w.alloc (.cells #[.string t.nm, .slice t.a t.l.length t.cap] 132) = W0 := ⟨_, rfl⟩
  rw [hW0] at B0 X0 ⊢
  clear hW0
  go_loopw [13] (fun v wr => ∃ k : Nat, k ≤ ts.length ∧ v = .int .i64 k ∧ Below W0.heap.size W0 wr ∧ othersB t nm (ts.take k) = false) (fun v _ => ts.length - (intOf v).toNat)
  case atStart => exact ⟨0, Nat.zero_le _, rfl, Below.refl _ _, rfl⟩
  case round =>
    obtain ⟨k, hk, rfl, hb, hf⟩ := hrel
    have HF : Hid (othersB t nm (ts.take k) = false) := hf
    have BW := B0.trans (hb.mono B0.size)
    clear hf
    by_cases hlt : k < ts.length
    · obtain ⟨u, huk⟩ : ∃ u, ts[k]? = some u := ⟨ts[k], List.getElem?_eq_getElem hlt⟩
      have hne : ts ≠ [] := by intro e; subst e; simp at hlt
      obtain rfl := hs.here hne
      have hm := List.mem_of_getElem? huk
      obtain ⟨c0, c1⟩ := (hs.below BW).two huk
      have k0 : (0 : Int) ≤ (k : Int) := by omega
      have k1 : (k : Int) < (ts.length : Int) := by omega
      have HU : Hid (ts[k]? = some u) := huk
      have X1 := (hb.block _ (lt_of_block X0)).trans X0
      have B1 := bel1 (w := wr) (.cells #[.string u.nm, .slice u.a u.l.length u.cap] 132)
      have X2 := (B1.block _ (lt_of_block X1)).trans X1
      obtain ⟨x0, x1, xf⟩ := blk2 X2
      have hT : TubeAt (wr.alloc (.cells #[.string u.nm, .slice u.a u.l.length u.cap] 132)) t := (ht.below BW).below B1
      have hU : TubeAt (wr.alloc (.cells #[.string u.nm, .slice u.a u.l.length u.cap] 132)) u := ((hs.below BW).each u hm).below B1
      clear huk
      by_cases he : u.nm = nm
      · have n1 : (u.nm.toList == nm.toList) = true := by simp [he]
        have HN : Hid ((!decide (u.nm = nm) && (meetTB t u).isSome) = false) := by show _ = _; simp [he]
        clear he
        go_wp2
        go_roundw
        case rel => exact ⟨k + 1, by omega, by go_num, hb.trans (B1.mono hb.size), others_not HF.out HU.out HN.out⟩
        case measure => simp [intOf]; omega
      · have n1 : (u.nm.toList == nm.toList) = false := namesT_apart he
        obtain ⟨s1, s2, i1, i2, i3, hcl⟩ := clashC_five t.nm u.nm (meetTB t u)
        have hc := meetI_any t u _ htl (hsm u hm) hT hU
        rw [hcl] at hc
        cases hv : (meetTB t u).isSome with
        | true =>
          rw [hv] at hc
          have HN : Hid ((!decide (u.nm = nm) && (meetTB t u).isSome) = true) := by show _ = _; rw [hv]; simp [he]
          clear hv hcl he
          go_wp2_with (go_at_call 128; refine hc.mono ?_; rintro e w2 ⟨rfl, hb2⟩)
          go_ret
          exact ⟨by rw [others_hit HU.out HN.out]; first | done | rfl, ((BW.trans (B1.mono BW.size)).trans (hb2.mono (BW.trans (B1.mono BW.size)).size)).trans ((bel1 _).mono (Nat.le_trans (BW.trans (B1.mono BW.size)).size hb2.size))⟩
        | false =>
          rw [hv] at hc
          have HN : Hid ((!decide (u.nm = nm) && (meetTB t u).isSome) = false) := by show _ = _; rw [hv]; simp
          clear hv hcl he
          go_wp2_with (go_at_call 128; refine hc.mono ?_; rintro e w2 ⟨rfl, hb2⟩)
          go_roundw
          case rel => exact ⟨k + 1, by omega, by go_num, ((hb.trans (B1.mono hb.size)).trans (hb2.mono (hb.trans (B1.mono hb.size)).size)).trans ((bel1 _).mono (Nat.le_trans (hb.trans (B1.mono hb.size)).size hb2.size)), others_not HF.out HU.out HN.out⟩
          case measure => simp [intOf]; omega
    · obtain rfl : k = ts.length := by omega
      have HF2 : Hid (othersB t nm ts = false) := by have h := HF.out; rwa [List.take_length] at h
      go_wp2
      go_ret
      exact ⟨by rw [HF2.out]; first | done | rfl, BW⟩
end Go.Proofs.YtgjleeamhkolhaaGreatDoor

namespace Go.Proofs.YtgjleeamhkolhaaGreatDoor
open Go.RowKit

abbrev Pt.fly (p : Pt) : Bool := flyB p.q p.s p.fr p.b p.l
def Wd.okB (t : Wd) : Bool := inB t.k 1 6 && nameB t.nm && inB t.n 1 1000000 && (if t.k ≤ 2 then t.p.fly else t.p.none)
end Go.Proofs.YtgjleeamhkolhaaGreatDoor

namespace Go.Proofs.YtgjleeamhkolhaaGreatDoor
open Go.RowKit

set_option maxRecDepth 20000 in
set_option maxHeartbeats 1000000 in
theorem flySpansS_any (q s fr b : Int) (a : Option Addr) (b0 o cap : Nat) (l : List Stp) (w : World) (hl : l.length ≤ 1048576) (hs : StepsAt w a b0 o l) :
    Calls Tryz.prog 77 #[.agg #[.int .i64 q, .int .i64 s, .slice a l.length cap, .int .i64 fr, .int .i64 b]] w
      fun e w' => ∃ v, e = .returned (.tuple #[v, .bool (flyB q s fr b l)]) ∧ w'.ownsRow w.heap.size 152 2 v (flyL q s fr b l).length (spanCells (flyL q s fr b l)) ∧ Below w.heap.size w w' := by
  have hB0 := BoxP.new w q s fr b (.slice a l.length cap) 38
  cases hp : pathB q s fr b l with
  | false =>
    have e1 : flyB q s fr b l = false := by unfold flyB; rw [hp]; rfl
    have e2 : flyL q s fr b l = [] := by unfold flyL; rw [hp]; rfl
    rw [e1, e2]
    go_enter Tryz.func77, Tryz.ntmps77
    go_wp2_with fail
    refine (pathS_any _ _ _ _ _ b0 o _ _ _ hl (hs.alloc _)).mono ?_
    rw [hp]
    rintro e w1 ⟨rfl, hb1⟩
    have hB1 := hB0.below hb1
    go_wp2
    go_ret2
    exact ⟨_, rfl, owns_empty hB1.old.size, hB1.old.alloc hB1.old.size _⟩
  | true =>
    have e1 : flyB q s fr b l = spanB q s fr b l := by unfold flyB; rw [hp]; rfl
    have e2 : flyL q s fr b l = spansL q s fr b l := by unfold flyL; rw [hp]; rfl
    rw [e1, e2]
    go_enter Tryz.func77, Tryz.ntmps77
    go_wp2_with fail
    refine (pathS_any _ _ _ _ _ b0 o _ _ _ hl (hs.alloc _)).mono ?_
    rw [hp]
    rintro e w1 ⟨rfl, hb1⟩
    have hB1 := hB0.below hb1
    have p0 := hB1.p0
    have p1 := hB1.p1
    have p2 := hB1.p2
    have p3 := hB1.p3
    have p4 := hB1.p4
    have z1 := hB1.lt
    clear hb1
    go_wp2_with fail
    refine (spansS_wide _ _ _ _ _ b0 o _ _ _ (hs.below hB1.old hs.lt) (Wide.of hp)).mono ?_
    rintro e w2 ⟨v, rfl, hown, hb2⟩
    go_wp2
    go_ret2
    exact ⟨_, rfl, ⟨hown.1, hown.2.imp id fun ⟨g, cap, cur, h1, h2, h3⟩ => ⟨g, cap, cur, h1, by omega, h3⟩⟩, hB1.old.trans (hb2.mono hB1.old.size)⟩
end Go.Proofs.YtgjleeamhkolhaaGreatDoor

namespace Go.Proofs.YtgjleeamhkolhaaGreatDoor
open Go.RowKit

theorem canS_any (p : Pt) (w : World) (hl : p.l.length ≤ 1048576) (h : PtAt w p) :
    Calls Tryz.prog 46 #[p.val] w fun e w' => e = .returned (.bool p.fly) ∧ Below w.heap.size w w' := by
  go_enter Tryz.func46, Tryz.ntmps46
  go_wp2_with fail
  refine (flySpansS_any _ _ _ _ _ p.b0 p.o _ _ _ hl (h.below (bel1 _) h.lt)).mono ?_
  rintro e w1 ⟨v, rfl, _, hb1⟩
  go_wp2
  go_ret
  exact ⟨rfl, (bel1 _).trans (hb1.mono (by simp))⟩
theorem hasFlight_any (hI : SpansSaid) (p : Pt) (w : World) (hl : p.l.length ≤ 1048576) (h : PtAt w p) :
    Calls Tryz.prog 78 #[p.val] w fun e w' => e = .returned (.bool p.fly) ∧ Below w.heap.size w w' := by
  go_enter Tryz.func78, Tryz.ntmps78
  go_wp2_with fail
  refine (hI _ _ _ _ _ p.b0 p.o _ _ _ hl (h.below (bel1 _) h.lt)).mono ?_
  rintro e w1 ⟨v, rfl, _, hb1⟩
  go_wp2
  go_ret
  exact ⟨rfl, (bel1 _).trans (hb1.mono (by simp))⟩

theorem isName_val (s : ByteArray) (v : Bool) (w : World) (hv : nameB s = v) :
    Calls Tryz.prog 66 #[.string s] w fun e w' => e = .returned (.bool v) ∧ Below w.heap.size w w' := by
  rw [← hv]; exact isName_any s w
theorem nameS_val (s : ByteArray) (v : Bool) (w : World) (hv : nameB s = v) :
    Calls Tryz.prog 25 #[.string s] w fun e w' => e = .returned (.bool v) ∧ w' = w := by
  rw [← hv]; exact nameS_any s w
end Go.Proofs.YtgjleeamhkolhaaGreatDoor

namespace Go.Proofs.YtgjleeamhkolhaaGreatDoor
open Go.RowKit

def sameB (t u : Stp) : Bool := t.x == u.x && (t.y == u.y && (t.lo == u.lo && (t.hi == u.hi && (t.fr == u.fr && (t.by_ == u.by_ && t.ho == u.ho)))))
def sameAt (l l' : List Stp) (j : Nat) : Bool := sameB (l.getD j .zero) (l'.getD j .zero)
def preN : List Stp → List Stp → Nat
  | t :: l, u :: l' => if sameB t u then preN l l' + 1 else 0
  | _, _ => 0
def kindEq (q s q' s' : Int) : Bool := q == q' && s == s'
def sharedN (q s : Int) (l : List Stp) (q' s' : Int) (l' : List Stp) : Nat := if kindEq q s q' s' then preN l l' else 0

theorem preN_at : ∀ (k : Nat) (l l' : List Stp), k ≤ l.length → k ≤ l'.length → (∀ j, j < k → sameAt l l' j = true) → (k = l.length ∨ k = l'.length ∨ sameAt l l' k = false) → preN l l' = k
  | 0, [], l', _, _, _, _ => by cases l' <;> rfl
  | 0, t :: l, [], _, _, _, _ => rfl
  | 0, t :: l, u :: l', _, _, _, h => by
    rcases h with h | h | h
    · simp at h
    · simp at h
    · unfold preN; rw [if_neg]; intro e; unfold sameAt at h; simp [e] at h
  | k + 1, [], _, h, _, _, _ => by simp at h
  | k + 1, t :: l, [], _, h, _, _ => by simp at h
  | k + 1, t :: l, u :: l', h1, h2, h3, h4 => by
    have h0 := h3 0 (by omega)
    unfold sameAt at h0
    simp at h0
    unfold preN
    rw [if_pos h0, preN_at k l l' (by simpa using h1) (by simpa using h2) (fun j hj => by have := h3 (j + 1) (by omega); unfold sameAt at this ⊢; simpa using this) (by
      rcases h4 with h | h | h
      · left; simpa using h
      · right; left; simpa using h
      · right; right; unfold sameAt at h ⊢; simpa using h)]

set_option maxHeartbeats 4000000 in
theorem run_eql_step (t u : Stp) (w : World) :
    (binOp .eql 98 (.agg #[.int .i64 t.x, .int .i64 t.y, .int .i64 t.lo, .int .i64 t.hi, .int .i64 t.fr, .int .i64 t.by_, .bool t.ho]) (.agg #[.int .i64 u.x, .int .i64 u.y, .int .i64 u.lo, .int .i64 u.hi, .int .i64 u.fr, .int .i64 u.by_, .bool u.ho])).run Tryz.prog w = .ok (.bool (sameB t u)) w := by
  unfold sameB
  cases h0 : t.x == u.x with
  | false => simp [go_sem, h0]
  | true =>
    cases h1 : t.y == u.y with
    | false => simp [go_sem, h0, h1]
    | true =>
      cases h2 : t.lo == u.lo with
      | false => simp [go_sem, h0, h1, h2]
      | true =>
        cases h3 : t.hi == u.hi with
        | false => simp [go_sem, h0, h1, h2, h3]
        | true =>
          cases h4 : t.fr == u.fr with
          | false => simp [go_sem, h0, h1, h2, h3, h4]
          | true =>
            cases h5 : t.by_ == u.by_ with
            | false => simp [go_sem, h0, h1, h2, h3, h4, h5]
            | true =>
              cases h6 : t.ho == u.ho with
              | false => simp [go_sem, h0, h1, h2, h3, h4, h5, h6]
              | true =>
                simp [go_sem, h0, h1, h2, h3, h4, h5, h6]

theorem run_eql_kind (q s q' s' : Int) (w : World) : (binOp .eql 35 (.agg #[.int .i64 q, .int .i64 s]) (.agg #[.int .i64 q', .int .i64 s'])).run Tryz.prog w = .ok (.bool (kindEq q s q' s')) w := by
  unfold kindEq
  cases h0 : q == q' with
  | false => simp [go_sem, h0]
  | true =>
    cases h1 : s == s' with
    | false => simp [go_sem, h0, h1]
    | true => simp [go_sem, h0, h1]
theorem run_neq_kind (q s q' s' : Int) (w : World) : (binOp .neq 35 (.agg #[.int .i64 q, .int .i64 s]) (.agg #[.int .i64 q', .int .i64 s'])).run Tryz.prog w = .ok (.bool (!kindEq q s q' s')) w := by
  unfold kindEq
  cases h0 : q == q' with
  | false => simp [go_sem, h0]
  | true =>
    cases h1 : s == s' with
    | false => simp [go_sem, h0, h1]
    | true => simp [go_sem, h0, h1]
theorem run_neq_step (t u : Stp) (w : World) :
    (binOp .neq 98 (.agg #[.int .i64 t.x, .int .i64 t.y, .int .i64 t.lo, .int .i64 t.hi, .int .i64 t.fr, .int .i64 t.by_, .bool t.ho]) (.agg #[.int .i64 u.x, .int .i64 u.y, .int .i64 u.lo, .int .i64 u.hi, .int .i64 u.fr, .int .i64 u.by_, .bool u.ho])).run Tryz.prog w = .ok (.bool (!sameB t u)) w := by
  have h := run_eql_step t u w
  rw [run_eql_struct] at h
  rw [run_neq_struct]
  generalize (Op.equalIn 10000 98 (.agg #[.int .i64 t.x, .int .i64 t.y, .int .i64 t.lo, .int .i64 t.hi, .int .i64 t.fr, .int .i64 t.by_, .bool t.ho]) (.agg #[.int .i64 u.x, .int .i64 u.y, .int .i64 u.lo, .int .i64 u.hi, .int .i64 u.fr, .int .i64 u.by_, .bool u.ho])).run Tryz.prog w = r at h ⊢
  cases r with
  | ok b w' =>
    simp only [Result.andThen_ok, Result.ok.injEq, Value.bool.injEq] at h ⊢
    obtain ⟨rfl, rfl⟩ := h
    exact ⟨rfl, rfl⟩
  | _ => simp [Result.andThen] at h
end Go.Proofs.YtgjleeamhkolhaaGreatDoor

namespace Go.Proofs.YtgjleeamhkolhaaGreatDoor
open Go.RowKit

theorem none_as (p : Pt) : p.none = (kindEq p.q p.s 0 0 && decide (p.l.length = 0) && (p.fr == 0) && (p.b == 0)) := rfl

theorem noneS_any (p : Pt) (w : World) :
    Calls Tryz.prog 47 #[p.val] w fun e w' => e = .returned (.bool p.none) ∧ Below w.heap.size w w' := by
  obtain ⟨q, s, fr, b, a, b0, o, cap, l⟩ := p
  have eqk := run_eql_kind q s 0 0
  rcases Bool.eq_false_or_eq_true (kindEq q s 0 0) with h1 | h1
  · by_cases h2 : l.length = 0
    · have : l = [] := List.eq_nil_of_length_eq_zero h2
      subst this
      by_cases h3 : fr = 0
      · subst h3
        by_cases h4 : b = 0
        · subst h4
          have ER : Hid (Pt.none ⟨q, s, 0, 0, a, b0, o, cap, []⟩ = true) := by show _ = _; rw [none_as]; simp [h1]
          go_enter Tryz.func47, Tryz.ntmps47
          go_wp2
          go_ret
          exact ⟨by rw [ER.out]; rfl, bel1 _⟩
        · have ER : Hid (Pt.none ⟨q, s, 0, b, a, b0, o, cap, []⟩ = false) := by show _ = _; rw [none_as]; simp [h4]
          have h5 : (b == 0) = false := beq_eq_false_iff_ne.2 h4
          go_enter Tryz.func47, Tryz.ntmps47
          go_wp2
          go_ret
          exact ⟨by rw [ER.out]; rfl, bel1 _⟩
      · have ER : Hid (Pt.none ⟨q, s, fr, b, a, b0, o, cap, []⟩ = false) := by show _ = _; rw [none_as]; simp [h3]
        have h5 : (fr == 0) = false := beq_eq_false_iff_ne.2 h3
        go_enter Tryz.func47, Tryz.ntmps47
        go_wp2
        go_ret
        exact ⟨by rw [ER.out]; rfl, bel1 _⟩
    · have ER : Hid (Pt.none ⟨q, s, fr, b, a, b0, o, cap, l⟩ = false) := by show _ = _; rw [none_as]; simp; intro _ h; subst h; simp at h2
      have h5 : ((l.length : Int) == 0) = false := beq_eq_false_iff_ne.2 (by omega)
      go_enter Tryz.func47, Tryz.ntmps47
      go_wp2
      go_ret
      exact ⟨by rw [ER.out]; rfl, bel1 _⟩
  · have ER : Hid (Pt.none ⟨q, s, fr, b, a, b0, o, cap, l⟩ = false) := by show _ = _; rw [none_as]; simp [h1]
    go_enter Tryz.func47, Tryz.ntmps47
    go_wp2
    go_ret
    exact ⟨by rw [ER.out]; rfl, bel1 _⟩

theorem noneI_any (p : Pt) (w : World) :
    Calls Tryz.prog 158 #[p.val] w fun e w' => e = .returned (.bool p.none) ∧ Below w.heap.size w w' := by
  obtain ⟨q, s, fr, b, a, b0, o, cap, l⟩ := p
  have eqk := run_eql_kind q s 0 0
  rcases Bool.eq_false_or_eq_true (kindEq q s 0 0) with h1 | h1
  · by_cases h2 : l.length = 0
    · have : l = [] := List.eq_nil_of_length_eq_zero h2
      subst this
      by_cases h3 : fr = 0
      · subst h3
        by_cases h4 : b = 0
        · subst h4
          have ER : Hid (Pt.none ⟨q, s, 0, 0, a, b0, o, cap, []⟩ = true) := by show _ = _; rw [none_as]; simp [h1]
          go_enter Tryz.func158, Tryz.ntmps158
          go_wp2
          go_ret
          exact ⟨by rw [ER.out]; rfl, bel1 _⟩
        · have ER : Hid (Pt.none ⟨q, s, 0, b, a, b0, o, cap, []⟩ = false) := by show _ = _; rw [none_as]; simp [h4]
          have h5 : (b == 0) = false := beq_eq_false_iff_ne.2 h4
          go_enter Tryz.func158, Tryz.ntmps158
          go_wp2
          go_ret
          exact ⟨by rw [ER.out]; rfl, bel1 _⟩
      · have ER : Hid (Pt.none ⟨q, s, fr, b, a, b0, o, cap, []⟩ = false) := by show _ = _; rw [none_as]; simp [h3]
        have h5 : (fr == 0) = false := beq_eq_false_iff_ne.2 h3
        go_enter Tryz.func158, Tryz.ntmps158
        go_wp2
        go_ret
        exact ⟨by rw [ER.out]; rfl, bel1 _⟩
    · have ER : Hid (Pt.none ⟨q, s, fr, b, a, b0, o, cap, l⟩ = false) := by show _ = _; rw [none_as]; simp; intro _ h; subst h; simp at h2
      have h5 : ((l.length : Int) == 0) = false := beq_eq_false_iff_ne.2 (by omega)
      go_enter Tryz.func158, Tryz.ntmps158
      go_wp2
      go_ret
      exact ⟨by rw [ER.out]; rfl, bel1 _⟩
  · have ER : Hid (Pt.none ⟨q, s, fr, b, a, b0, o, cap, l⟩ = false) := by show _ = _; rw [none_as]; simp [h1]
    go_enter Tryz.func158, Tryz.ntmps158
    go_wp2
    go_ret
    exact ⟨by rw [ER.out]; rfl, bel1 _⟩
end Go.Proofs.YtgjleeamhkolhaaGreatDoor

namespace Go.Proofs.YtgjleeamhkolhaaGreatDoor
open Go.RowKit

/-- What was sent, and its number, are ok. -/
def sentOkB (t : Hd) : Bool := if t.sn = 0 then t.x.none else decide (t.n < t.sn) && t.x.fly
def heldB (t : Hd) : Bool := nameB t.nm && decide (1 ≤ t.n) && t.p.fly && sentOkB t
theorem heldB_key {t u : Hd} (h : t.key = u.key) : heldB t = heldB u := by
  obtain ⟨nm, n, ⟨q, s, fr, b, a, b0, o, cap, l⟩, sn, ⟨q', s', fr', b', a', b0', o', cap', l'⟩⟩ := t
  obtain ⟨nm2, n2, ⟨q2, s2, fr2, b2, a2, b02, o2, cap2, l2⟩, sn2, ⟨q2', s2', fr2', b2', a2', b02', o2', cap2', l2'⟩⟩ := u
  simp only [Hd.key, Pt.key, Prod.mk.injEq] at h
  obtain ⟨rfl, rfl, ⟨rfl, rfl, rfl, rfl, rfl⟩, rfl, rfl, rfl, rfl, rfl, rfl⟩ := h
  rfl

theorem canS_val (p : Pt) (v : Bool) (w : World) (hl : p.l.length ≤ 1048576) (h : PtAt w p) (hv : p.fly = v) : Calls Tryz.prog 46 #[p.val] w fun e w' => e = .returned (.bool v) ∧ Below w.heap.size w w' := by
  rw [← hv]; exact canS_any p w hl h
theorem hasFlight_val (hI : SpansSaid) (p : Pt) (v : Bool) (w : World) (hl : p.l.length ≤ 1048576) (h : PtAt w p) (hv : p.fly = v) : Calls Tryz.prog 78 #[p.val] w fun e w' => e = .returned (.bool v) ∧ Below w.heap.size w w' := by
  rw [← hv]; exact hasFlight_any hI p w hl h
theorem noneS_val (p : Pt) (v : Bool) (w : World) (hv : p.none = v) : Calls Tryz.prog 47 #[p.val] w fun e w' => e = .returned (.bool v) ∧ Below w.heap.size w w' := by
  rw [← hv]; exact noneS_any p w

set_option maxRecDepth 20000 in
theorem sentOkI_any (hI : SpansSaid) (t : Hd) (v : Bool) (w : World) (hxl : t.x.l.length ≤ 1048576) (ht : HdAt w t) (hv : sentOkB t = v) :
    Calls Tryz.prog 137 #[t.val] w fun e w' => e = .returned (.bool v) ∧ Below w.heap.size w w' := by
  have B0 := bel1 (w := w) (.cells #[.string t.nm, .int .i64 t.n, .int .i64 t.p.q, .int .i64 t.p.s, .slice t.p.a t.p.l.length t.p.cap, .int .i64 t.p.fr, .int .i64 t.p.b, .int .i64 t.sn, .int .i64 t.x.q, .int .i64 t.x.s, .slice t.x.a t.x.l.length t.x.cap, .int .i64 t.x.fr, .int .i64 t.x.b] 63)
  have hx := ht.x.below B0 ht.x.lt
  by_cases h0 : t.sn = 0
  · have e0 : (t.sn == 0) = true := beq_iff_eq.2 h0
    have HN : Hid (t.x.none = v) := by show _ = _; rw [← hv]; unfold sentOkB; rw [if_pos h0]
    clear hv h0
    go_enter Tryz.func137, Tryz.ntmps137
    go_wp2_with fail
    refine (noneI_any t.x _).mono ?_
    rintro e w1 ⟨rfl, hb1⟩
    rw [HN.out]
    go_wp2
    go_ret
    exact ⟨rfl, B0.trans (hb1.mono B0.size)⟩
  · have e0 : (t.sn == 0) = false := beq_eq_false_iff_ne.2 h0
    by_cases h1 : t.n < t.sn
    · have HN : Hid (t.x.fly = v) := by show _ = _; rw [← hv]; unfold sentOkB; rw [if_neg h0, decide_eq_true h1, Bool.true_and]
      clear hv h0
      go_enter Tryz.func137, Tryz.ntmps137
      go_wp2_with fail
      refine (hasFlight_val hI t.x v _ hxl hx HN.out).mono ?_
      rintro e w1 ⟨rfl, hb1⟩
      go_wp2
      go_ret
      exact ⟨rfl, B0.trans (hb1.mono B0.size)⟩
    · obtain rfl : false = v := by rw [← hv]; unfold sentOkB; rw [if_neg h0, decide_eq_false h1, Bool.false_and]
      clear hv h0
      go_enter Tryz.func137, Tryz.ntmps137
      go_wp2
      go_ret
      exact ⟨rfl, B0⟩

set_option maxRecDepth 20000 in
theorem heldOkI_any (hI : SpansSaid) (t : Hd) (v : Bool) (w : World) (hpl : t.p.l.length ≤ 1048576) (hxl : t.x.l.length ≤ 1048576) (ht : HdAt w t) (hv : heldB t = v) :
    Calls Tryz.prog 118 #[t.val] w fun e w' => e = .returned (.bool v) ∧ Below w.heap.size w w' := by
  have B0 := bel1 (w := w) (.cells #[.string t.nm, .int .i64 t.n, .int .i64 t.p.q, .int .i64 t.p.s, .slice t.p.a t.p.l.length t.p.cap, .int .i64 t.p.fr, .int .i64 t.p.b, .int .i64 t.sn, .int .i64 t.x.q, .int .i64 t.x.s, .slice t.x.a t.x.l.length t.x.cap, .int .i64 t.x.fr, .int .i64 t.x.b] 63)
  have X0 := HdIn.new w t 63
  unfold heldB at hv
  cases hn : nameB t.nm with
  | false =>
    obtain rfl : false = v := by rw [← hv, hn]; rfl
    clear hv
    go_enter Tryz.func118, Tryz.ntmps118
    go_wp2_with (go_at_call 66; refine (isName_val t.nm false _ hn).mono ?_; rintro e w1 ⟨rfl, hb1⟩)
    go_ret
    exact ⟨rfl, B0.trans (hb1.mono B0.size)⟩
  | true =>
    rw [hn, Bool.true_and] at hv
    go_enter Tryz.func118, Tryz.ntmps118
    go_wp2_with fail
    refine (isName_val t.nm true _ hn).mono ?_
    rintro e w1 ⟨rfl, hb1⟩
    have B1 := B0.trans (hb1.mono B0.size)
    have X1 := X0.keep hb1 X0.lt
    obtain ⟨c0, c1, c2, c3, c4, c5, c6, c7, c8, c9, c10, c11, c12⟩ := cl_cells X1.cs
    simp only [Nat.zero_add] at c0 c1 c2 c3 c4 c5 c6 c7 c8 c9 c10 c11 c12
    clear hb1 hn
    by_cases h1 : (1 : Int) ≤ t.n
    · rw [decide_eq_true h1, Bool.true_and] at hv
      cases hf : t.p.fly with
      | false =>
        obtain rfl : false = v := by rw [← hv, hf]; rfl
        clear hv
        go_wp2_with (go_at_call 78; refine (hasFlight_val hI t.p false _ hpl (ht.p.below B1 ht.p.lt) hf).mono ?_; rintro e w2 ⟨rfl, hb2⟩)
        go_ret
        exact ⟨rfl, B1.trans (hb2.mono B1.size)⟩
      | true =>
        rw [hf, Bool.true_and] at hv
        go_wp2_with fail
        refine (hasFlight_val hI t.p true _ hpl (ht.p.below B1 ht.p.lt) hf).mono ?_
        rintro e w2 ⟨rfl, hb2⟩
        have B2 := B1.trans (hb2.mono B1.size)
        have X2 := X1.keep hb2 X1.lt
        obtain ⟨d0, d1, d2, d3, d4, d5, d6, d7, d8, d9, d10, d11, d12⟩ := cl_cells X2.cs
        simp only [Nat.zero_add] at d0 d1 d2 d3 d4 d5 d6 d7 d8 d9 d10 d11 d12
        clear hb2 hf c0 c1 c2 c3 c4 c5 c6 c7 c8 c9 c10 c11 c12
        go_wp2_with (go_at_call 137; refine (sentOkI_any hI t v _ hxl (ht.below B2) hv).mono ?_; rintro e w3 ⟨rfl, hb3⟩)
        go_ret
        exact ⟨rfl, B2.trans (hb3.mono B2.size)⟩
    · obtain rfl : false = v := by rw [← hv, decide_eq_false h1]; rfl
      clear hv
      go_wp2
      go_ret
      exact ⟨rfl, B1⟩

/-- As the specification asks it. -/
theorem sentOkB_as {t : Hd} (h : 1 ≤ t.n) : sentOkB t = (t.x.none && (t.sn == 0) || t.x.fly && decide (t.n < t.sn)) := by
  unfold sentOkB
  by_cases h0 : t.sn = 0
  · rw [if_pos h0, decide_eq_false (by omega), Bool.and_false, Bool.or_false, beq_iff_eq.2 h0, Bool.and_true]
  · rw [if_neg h0, beq_eq_false_iff_ne.2 h0, Bool.and_false, Bool.false_or, Bool.and_comm]

set_option maxRecDepth 20000 in
set_option maxHeartbeats 1000000 in
theorem heldOkS_any (t : Hd) (v : Bool) (w : World) (hpl : t.p.l.length ≤ 1048576) (hxl : t.x.l.length ≤ 1048576) (ht : HdAt w t) (hv : heldB t = v) :
    Calls Tryz.prog 53 #[t.val] w fun e w' => e = .returned (.bool v) ∧ Below w.heap.size w w' := by
  have B0 := bel1 (w := w) (.cells #[.string t.nm, .int .i64 t.n, .int .i64 t.p.q, .int .i64 t.p.s, .slice t.p.a t.p.l.length t.p.cap, .int .i64 t.p.fr, .int .i64 t.p.b, .int .i64 t.sn, .int .i64 t.x.q, .int .i64 t.x.s, .slice t.x.a t.x.l.length t.x.cap, .int .i64 t.x.fr, .int .i64 t.x.b] 63)
  have X0 := HdIn.new w t 63
  unfold heldB at hv
  cases hn : nameB t.nm with
  | false =>
    obtain rfl : false = v := by rw [← hv, hn]; rfl
    clear hv
    go_enter Tryz.func53, Tryz.ntmps53
    go_wp2_with (go_at_call 25; refine (nameS_val t.nm false _ hn).mono ?_; rintro e w1 ⟨rfl, rfl⟩)
    go_ret
    exact ⟨rfl, B0⟩
  | true =>
    rw [hn, Bool.true_and] at hv
    by_cases h1 : (1 : Int) ≤ t.n
    · rw [decide_eq_true h1, Bool.true_and, sentOkB_as h1] at hv
      have h1' : ¬ t.n < 1 := by omega
      cases hf : t.p.fly with
      | false =>
        obtain rfl : false = v := by rw [← hv, hf]; rfl
        clear hv
        go_enter Tryz.func53, Tryz.ntmps53
        go_wp2_with (first
          | (go_at_call 25; refine (nameS_val t.nm true _ hn).mono ?_; rintro e w1 ⟨rfl, rfl⟩)
          | (go_at_call 46; refine (canS_val t.p false _ hpl (ht.p.below B0 ht.p.lt) hf).mono ?_; rintro e w2 ⟨rfl, hb2⟩))
        go_ret
        exact ⟨rfl, B0.trans (hb2.mono B0.size)⟩
      | true =>
        rw [hf, Bool.true_and] at hv
        go_enter Tryz.func53, Tryz.ntmps53
        go_wp2_with (first
          | (go_at_call 25; refine (nameS_val t.nm true _ hn).mono ?_; rintro e w1 ⟨rfl, rfl⟩)
          | fail)
        refine (canS_val t.p true _ hpl (ht.p.below B0 ht.p.lt) hf).mono ?_
        rintro e w2 ⟨rfl, hb2⟩
        have B2 := B0.trans (hb2.mono B0.size)
        have X2 := X0.keep hb2 X0.lt
        obtain ⟨d0, d1, d2, d3, d4, d5, d6, d7, d8, d9, d10, d11, d12⟩ := cl_cells X2.cs
        simp only [Nat.zero_add] at d0 d1 d2 d3 d4 d5 d6 d7 d8 d9 d10 d11 d12
        clear hb2 hf hn
        cases hx : t.x.none with
        | true =>
          by_cases h0 : t.sn = 0
          · have e0 : (t.sn == 0) = true := beq_iff_eq.2 h0
            obtain rfl : true = v := by rw [← hv, hx, e0]; rfl
            clear hv h0
            go_wp2_with (go_at_call 47; refine (noneS_val t.x true _ hx).mono ?_; rintro e w3 ⟨rfl, hb3⟩; obtain ⟨ec0, ec1, ec2, ec3, ec4, ec5, ec6, ec7, ec8, ec9, ec10, ec11, ec12⟩ := cl_cells (X2.keep hb3 X2.lt).cs; simp only [Nat.zero_add] at ec0 ec1 ec2 ec3 ec4 ec5 ec6 ec7 ec8 ec9 ec10 ec11 ec12)
            go_ret
            exact ⟨rfl, B2.trans (hb3.mono B2.size)⟩
          · have e0 : (t.sn == 0) = false := beq_eq_false_iff_ne.2 h0
            rw [e0] at hv
            go_wp2_with fail
            refine (noneS_val t.x true _ hx).mono ?_
            rintro e w3 ⟨rfl, hb3⟩
            have B3 := B2.trans (hb3.mono B2.size)
            have X3 := X2.keep hb3 X2.lt
            obtain ⟨ec0, ec1, ec2, ec3, ec4, ec5, ec6, ec7, ec8, ec9, ec10, ec11, ec12⟩ := cl_cells X3.cs
            simp only [Nat.zero_add] at ec0 ec1 ec2 ec3 ec4 ec5 ec6 ec7 ec8 ec9 ec10 ec11 ec12
            clear hb3 hx d0 d1 d2 d3 d4 d5 d6 d7 d8 d9 d10 d11 d12
            cases hfx : t.x.fly with
            | false =>
              obtain rfl : false = v := by rw [← hv, hfx]; simp
              clear hv
              go_wp2_with (go_at_call 46; refine (canS_val t.x false _ hxl (ht.x.below B3 ht.x.lt) hfx).mono ?_; rintro e w4 ⟨rfl, hb4⟩)
              go_ret
              exact ⟨by first | rfl | simp [hns], B3.trans (hb4.mono B3.size)⟩
            | true =>
              by_cases hns : t.n < t.sn
              · obtain rfl : true = v := by rw [← hv, hfx, decide_eq_true hns]; simp
                clear hv
                go_wp2_with (go_at_call 46; refine (canS_val t.x true _ hxl (ht.x.below B3 ht.x.lt) hfx).mono ?_; rintro e w4 ⟨rfl, hb4⟩; obtain ⟨fc0, fc1, fc2, fc3, fc4, fc5, fc6, fc7, fc8, fc9, fc10, fc11, fc12⟩ := cl_cells (X3.keep hb4 X3.lt).cs; simp only [Nat.zero_add] at fc0 fc1 fc2 fc3 fc4 fc5 fc6 fc7 fc8 fc9 fc10 fc11 fc12)
                go_ret
                exact ⟨by first | rfl | simp [hns], B3.trans (hb4.mono B3.size)⟩
              · obtain rfl : false = v := by rw [← hv, hfx, decide_eq_false hns]; simp
                clear hv
                go_wp2_with (go_at_call 46; refine (canS_val t.x true _ hxl (ht.x.below B3 ht.x.lt) hfx).mono ?_; rintro e w4 ⟨rfl, hb4⟩; obtain ⟨fc0, fc1, fc2, fc3, fc4, fc5, fc6, fc7, fc8, fc9, fc10, fc11, fc12⟩ := cl_cells (X3.keep hb4 X3.lt).cs; simp only [Nat.zero_add] at fc0 fc1 fc2 fc3 fc4 fc5 fc6 fc7 fc8 fc9 fc10 fc11 fc12)
                go_ret
                exact ⟨by first | rfl | simp [hns], B3.trans (hb4.mono B3.size)⟩
        | false =>
          rw [hx] at hv
          go_wp2_with fail
          refine (noneS_val t.x false _ hx).mono ?_
          rintro e w3 ⟨rfl, hb3⟩
          have B3 := B2.trans (hb3.mono B2.size)
          have X3 := X2.keep hb3 X2.lt
          obtain ⟨ec0, ec1, ec2, ec3, ec4, ec5, ec6, ec7, ec8, ec9, ec10, ec11, ec12⟩ := cl_cells X3.cs
          simp only [Nat.zero_add] at ec0 ec1 ec2 ec3 ec4 ec5 ec6 ec7 ec8 ec9 ec10 ec11 ec12
          clear hb3 hx d0 d1 d2 d3 d4 d5 d6 d7 d8 d9 d10 d11 d12
          cases hfx : t.x.fly with
          | false =>
            obtain rfl : false = v := by rw [← hv, hfx]; simp
            clear hv
            go_wp2_with (go_at_call 46; refine (canS_val t.x false _ hxl (ht.x.below B3 ht.x.lt) hfx).mono ?_; rintro e w4 ⟨rfl, hb4⟩)
            go_ret
            exact ⟨by first | rfl | simp [hns], B3.trans (hb4.mono B3.size)⟩
          | true =>
            by_cases hns : t.n < t.sn
            · obtain rfl : true = v := by rw [← hv, hfx, decide_eq_true hns]; simp
              clear hv
              go_wp2_with (go_at_call 46; refine (canS_val t.x true _ hxl (ht.x.below B3 ht.x.lt) hfx).mono ?_; rintro e w4 ⟨rfl, hb4⟩; obtain ⟨fc0, fc1, fc2, fc3, fc4, fc5, fc6, fc7, fc8, fc9, fc10, fc11, fc12⟩ := cl_cells (X3.keep hb4 X3.lt).cs; simp only [Nat.zero_add] at fc0 fc1 fc2 fc3 fc4 fc5 fc6 fc7 fc8 fc9 fc10 fc11 fc12)
              go_ret
              exact ⟨by first | rfl | simp [hns], B3.trans (hb4.mono B3.size)⟩
            · obtain rfl : false = v := by rw [← hv, hfx, decide_eq_false hns]; simp
              clear hv
              go_wp2_with (go_at_call 46; refine (canS_val t.x true _ hxl (ht.x.below B3 ht.x.lt) hfx).mono ?_; rintro e w4 ⟨rfl, hb4⟩; obtain ⟨fc0, fc1, fc2, fc3, fc4, fc5, fc6, fc7, fc8, fc9, fc10, fc11, fc12⟩ := cl_cells (X3.keep hb4 X3.lt).cs; simp only [Nat.zero_add] at fc0 fc1 fc2 fc3 fc4 fc5 fc6 fc7 fc8 fc9 fc10 fc11 fc12)
              go_ret
              exact ⟨by first | rfl | simp [hns], B3.trans (hb4.mono B3.size)⟩
    · obtain rfl : false = v := by rw [← hv, decide_eq_false h1]; rfl
      have h1' : t.n < 1 := by omega
      clear hv
      go_enter Tryz.func53, Tryz.ntmps53
      go_wp2_with (go_at_call 25; refine (nameS_val t.nm true _ hn).mono ?_; rintro e w1 ⟨rfl, rfl⟩)
      go_ret
      exact ⟨rfl, B0⟩
end Go.Proofs.YtgjleeamhkolhaaGreatDoor

namespace Go.Proofs.YtgjleeamhkolhaaGreatDoor
open Go.RowKit Go.Shelf
attribute [local go_sem] Oper.semAt_some

/-- A name and a path. -/
abbrev NP := ByteArray × Pt
def bothOf (t : Hd) : List NP := [(t.nm, t.p), (t.nm, t.x)]
/-- Whatever may be flown. -/
def mayL (ts : List Hd) : List NP := ts.flatMap bothOf
def mayTo (ts : List Hd) (k : Nat) : List NP := mayL (ts.take k)
theorem mayTo_zero (ts : List Hd) : mayTo ts 0 = [] := rfl
theorem mayTo_all (ts : List Hd) : mayTo ts ts.length = mayL ts := by rw [mayTo, List.take_length]
theorem mayTo_succ {ts : List Hd} {k : Nat} {t : Hd} (h : ts[k]? = some t) : mayTo ts (k + 1) = mayTo ts k ++ bothOf t := by
  unfold mayTo mayL
  rw [List.take_add_one, h, List.flatMap_append]
  simp
theorem mayL_length (ts : List Hd) : (mayL ts).length = 2 * ts.length := by
  induction ts with
  | nil => rfl
  | cons t ts ih =>
    show (bothOf t ++ mayL ts).length = _
    rw [List.length_append, ih]
    simp [bothOf]
    omega
theorem mayTo_length {ts : List Hd} {k : Nat} (h : k ≤ ts.length) : (mayTo ts k).length = 2 * k := by
  rw [mayTo, mayL_length, List.length_take]
  omega
theorem mayTo_pre (ts : List Hd) (k : Nat) : ∃ post, mayL ts = mayTo ts k ++ post := by
  refine ⟨mayL (ts.drop k), ?_⟩
  unfold mayTo mayL
  rw [← List.flatMap_append, List.take_append_drop]
theorem mayTo_pre1 {ts : List Hd} {k : Nat} {t : Hd} (h : ts[k]? = some t) : ∃ post, mayL ts = (mayTo ts k ++ [(t.nm, t.p)]) ++ post := by
  obtain ⟨post, hp⟩ := mayTo_pre ts (k + 1)
  refine ⟨(t.nm, t.x) :: post, ?_⟩
  rw [hp, mayTo_succ h]
  simp [bothOf]

/-- One of these. -/
abbrev NE (ts : List Hd) : Type := { x : NP // x ∈ mayL ts }
abbrev vN {ts : List Hd} (x : NE ts) : NP := x.1
abbrev encN {ts : List Hd} (x : NE ts) : Array Value := #[.string x.1.1, x.1.2.val]
theorem mem_held {ts : List Hd} {k : Nat} {t : Hd} (h : ts[k]? = some t) : (t.nm, t.p) ∈ mayL ts := List.mem_flatMap.2 ⟨t, List.mem_of_getElem? h, by simp [bothOf]⟩
theorem mem_sent {ts : List Hd} {k : Nat} {t : Hd} (h : ts[k]? = some t) : (t.nm, t.x) ∈ mayL ts := List.mem_flatMap.2 ⟨t, List.mem_of_getElem? h, by simp [bothOf]⟩
theorem of_may {ts : List Hd} (x : NE ts) : ∃ t ∈ ts, x.1 = (t.nm, t.p) ∨ x.1 = (t.nm, t.x) := by
  obtain ⟨x, hx⟩ := x
  obtain ⟨t, ht, h⟩ := List.mem_flatMap.1 hx
  exact ⟨t, ht, by simpa [bothOf] using h⟩

/-- Boxes of the iterator's kinds, and the row of block b, lie as they lay. -/
structure KeepS (n₀ b : Nat) (A B : World) : Prop where
  size : A.heap.size ≤ B.heap.size
  held : ∀ (k : Nat) (cs : Array Value), A.heap[k]? = some (.cells cs 63 (0, 0)) → B.heap[k]? = some (.cells cs 63 (0, 0))
  path : ∀ (k : Nat) (cs : Array Value), A.heap[k]? = some (.cells cs 38 (0, 0)) → B.heap[k]? = some (.cells cs 38 (0, 0))
  list : ∀ (k : Nat) (cs : Array Value), A.heap[k]? = some (.cells cs 32 (0, 0)) → B.heap[k]? = some (.cells cs 32 (0, 0))
  fn : ∀ (k : Nat) (cs : Array Value), A.heap[k]? = some (.cells cs 199 (0, 0)) → B.heap[k]? = some (.cells cs 199 (0, 0))
  row : b < n₀ → B.heap[b]? = A.heap[b]?
theorem KeepS.refl (n₀ b : Nat) (A : World) : KeepS n₀ b A A := ⟨Nat.le_refl _, fun _ _ h => h, fun _ _ h => h, fun _ _ h => h, fun _ _ h => h, fun _ => rfl⟩
theorem KeepS.trans {n₀ b : Nat} {A B C : World} (h : KeepS n₀ b A B) (k : KeepS n₀ b B C) : KeepS n₀ b A C :=
  ⟨Nat.le_trans h.size k.size, fun i c e => k.held i c (h.held i c e), fun i c e => k.path i c (h.path i c e), fun i c e => k.list i c (h.list i c e), fun i c e => k.fn i c (h.fn i c e), fun e => (k.row e).trans (h.row e)⟩
theorem KeepS.of {n₀ b : Nat} {A B : World} (hn : n₀ ≤ A.heap.size) (h : Below A.heap.size A B) : KeepS n₀ b A B :=
  ⟨h.size, fun i _ e => (h.block i (lt_of_block e)).trans e, fun i _ e => (h.block i (lt_of_block e)).trans e, fun i _ e => (h.block i (lt_of_block e)).trans e, fun i _ e => (h.block i (lt_of_block e)).trans e, fun e => h.block b (by omega)⟩
theorem KeepS.putObj {n₀ b : Nat} {w : World} (hn : n₀ ≤ w.heap.size) (W : World) (l : Nat) (o o' : Obj) (hl : w.heap.size ≤ l) (h : W.heap[l]? = some o) (hc : o.isCells = false) (_ : o.isWalk = false) : KeepS n₀ b W (W.putObj l o') := by
  have H : ∀ (k : Nat) (cs : Array Value) (T : TypeId), W.heap[k]? = some (.cells cs T (0, 0)) → (W.putObj l o').heap[k]? = some (.cells cs T (0, 0)) := fun k cs T e => by
    rw [World.putObj_heap_other (by rintro rfl; rw [h] at e; cases e; cases hc)]
    exact e
  exact ⟨by simp [World.putObj], fun k cs e => H k cs _ e, fun k cs e => H k cs _ e, fun k cs e => H k cs _ e, fun k cs e => H k cs _ e, fun e => World.putObj_heap_other (by omega)⟩
theorem grown_none {A B : World} (h : Below A.heap.size A B) : A.grownBy B none := ⟨h.os, h.tape, h.output, h.size, fun k hk _ => h.block k hk⟩
theorem cl_block {W : World} {H : Nat} {t : Hd} {T : TypeId} (h : W.heap[H]? = some (.cells #[.string t.nm, .int .i64 t.n, .int .i64 t.p.q, .int .i64 t.p.s, .slice t.p.a t.p.l.length t.p.cap, .int .i64 t.p.fr, .int .i64 t.p.b, .int .i64 t.sn, .int .i64 t.x.q, .int .i64 t.x.s, .slice t.x.a t.x.l.length t.x.cap, .int .i64 t.x.fr, .int .i64 t.x.b] T (0, 0))) : W.rangeAt H 0 t.cl := fun j v hv => by
  match j, hv with
  | 0, hv | 1, hv | 2, hv | 3, hv | 4, hv | 5, hv | 6, hv | 7, hv | 8, hv | 9, hv | 10, hv | 11, hv | 12, hv => simp at hv; subst hv; simp [World.cell?, h]

theorem paths_any (t : Hd) (w : World) :
    Calls Tryz.prog 132 #[t.val] w fun e w' => e = .returned (.agg #[.int .i64 t.p.q, .int .i64 t.p.s, .slice t.p.a t.p.l.length t.p.cap, .int .i64 t.p.fr, .int .i64 t.p.b, .int .i64 t.x.q, .int .i64 t.x.s, .slice t.x.a t.x.l.length t.x.cap, .int .i64 t.x.fr, .int .i64 t.x.b]) ∧ Below w.heap.size w w' := by
  go_enter Tryz.func132, Tryz.ntmps132
  go_wp2
  refine bodyPost_ret (v := .agg #[.int .i64 t.p.q, .int .i64 t.p.s, .slice t.p.a t.p.l.length t.p.cap, .int .i64 t.p.fr, .int .i64 t.p.b, .int .i64 t.x.q, .int .i64 t.x.s, .slice t.x.a t.x.l.length t.x.cap, .int .i64 t.x.fr, .int .i64 t.x.b]) (by simp [results, Tryz.results132, go_sem]) rfl ⟨rfl, ?_⟩
  exact bel2 _ _

theorem idx0 (t : Hd) (W : World) : (Instr.index 228 (.agg #[.int .i64 t.p.q, .int .i64 t.p.s, .slice t.p.a t.p.l.length t.p.cap, .int .i64 t.p.fr, .int .i64 t.p.b, .int .i64 t.x.q, .int .i64 t.x.s, .slice t.x.a t.x.l.length t.x.cap, .int .i64 t.x.fr, .int .i64 t.x.b]) (.int .i64 0)).run Tryz.prog W = .ok (.agg #[.int .i64 t.p.q, .int .i64 t.p.s, .slice t.p.a t.p.l.length t.p.cap, .int .i64 t.p.fr, .int .i64 t.p.b]) W := by
  simp [Instr.index, run_underlying Tryz.underlying228, go_sem]
theorem idx1 (t : Hd) (W : World) : (Instr.index 228 (.agg #[.int .i64 t.p.q, .int .i64 t.p.s, .slice t.p.a t.p.l.length t.p.cap, .int .i64 t.p.fr, .int .i64 t.p.b, .int .i64 t.x.q, .int .i64 t.x.s, .slice t.x.a t.x.l.length t.x.cap, .int .i64 t.x.fr, .int .i64 t.x.b]) (.int .i64 1)).run Tryz.prog W = .ok (.agg #[.int .i64 t.x.q, .int .i64 t.x.s, .slice t.x.a t.x.l.length t.x.cap, .int .i64 t.x.fr, .int .i64 t.x.b]) W := by
  simp [Instr.index, run_underlying Tryz.underlying228, go_sem]

set_option maxRecDepth 100000 in
set_option maxHeartbeats 4000000 in
theorem hs1_in (n : Nat) (hn : 1 ≤ n) (lp Ba Bb n₀ b o ca : Nat) (a : Option Addr) (ts : List Hd) (hl : ts.length ≤ 1048576) (J Jx : List (NE ts) → World → Prop)
    (hJ : ∀ s A B, J s A → A.grownBy B none → J s B)
    (hY : ∀ pre x W, J pre W → pre.length < 2 * ts.length → YieldAt Fence.wide (n - 1) Tryz.prog lp (encN x) W fun e W' =>
      (e = .returned (.bool true) ∧ J (pre ++ [x]) W' ∧ KeepS n₀ b W W') ∨ (e = .returned (.bool false) ∧ Jx (pre ++ [x]) W'))
    (W : World) (hnW : n₀ ≤ W.heap.size) (ha : W.heap[Ba]? = some (.cells #[.slice a ts.length ca] 32 (0, 0))) (hb : W.heap[Bb]? = some (.cells #[.func (.func 132) #[] #[]] 199 (0, 0)))
    (hs : HdsAt W a b o ts) (hbn : ts ≠ [] → b < n₀) (h0 : J [] W) :
    CallsIn Fence.wide n Tryz.prog 156 #[.func (.yield lp) #[] #[], .pointer (some ⟨Ba, 0, none⟩), .pointer (some ⟨Bb, 0, none⟩)] W fun e W' => (∃ v, e = .returned v) ∧
      ((∃ ys, ys.map vN = mayL ts ∧ J ys W') ∨ (∃ pre : List (NE ts), (∃ post, mayL ts = pre.map vN ++ post) ∧ Jx pre W')) := by
  refine callsIn_of_wp Tryz.func156 rfl trivial ?_ rfl
  simp only [Tryz.ntmps156, List.size_toArray, List.length_cons, List.length_nil, Nat.reduceAdd, Nat.reduceSub, Array.replicate_succ, Array.replicate_zero, List.push_toArray, List.append_toArray, List.nil_append, List.cons_append]
  have hca : W.cell? ⟨Ba, 0, none⟩ = some (.slice a ts.length ca) := by simp [World.cell?, ha]
  gi_wp2
  gi_loopw [10] (fun i wr => ∃ k : Nat, k ≤ ts.length ∧ i = .int .i64 k ∧ (∃ pre : List (NE ts), pre.map vN = mayTo ts k ∧ J pre wr) ∧ KeepS n₀ b W wr) (fun i _ => ts.length - (intOf i).toNat)
  case atStart => exact ⟨0, Nat.zero_le _, rfl, ⟨[], rfl, h0⟩, KeepS.refl _ _ _⟩
  case round =>
    obtain ⟨k, hk, rfl, hJs, hnx⟩ := hrel
    by_cases hlt : k < ts.length
    · obtain ⟨t, htk⟩ : ∃ t, ts[k]? = some t := ⟨ts[k], List.getElem?_eq_getElem hlt⟩
      have hne : ts ≠ [] := by intro e; subst e; simp at hlt
      obtain rfl := hs.here hne
      have hrow : wr.rangeAt b (o + k * 13) t.cl := fun j v hv => (World.cell?_of_block (w := W) (a := ⟨b, o + k * 13 + j, none⟩) (hnx.row (hbn hne))).trans (hs.cell k t htk j v hv)
      obtain ⟨e0, e1, e2, e3, e4, e5, e6, e7, e8, e9, e10, e11, e12⟩ := cl_cells hrow
      have hcb : wr.cell? ⟨Bb, 0, none⟩ = some (.func (.func 132) #[] #[]) := by simp [World.cell?, hnx.fn Bb _ hb]
      have k0 : (0 : Int) ≤ (k : Int) := by omega
      have k1 : (k : Int) < (ts.length : Int) := by omega
      have HT : Hid (ts[k]? = some t) := htk
      have hbl : Bb < wr.heap.size := lt_of_block (hnx.fn Bb _ hb)
      have hcb2 : (wr.alloc (.cells #[.string t.nm, .int .i64 t.n, .int .i64 t.p.q, .int .i64 t.p.s, .slice t.p.a t.p.l.length t.p.cap, .int .i64 t.p.fr, .int .i64 t.p.b, .int .i64 t.sn, .int .i64 t.x.q, .int .i64 t.x.s, .slice t.x.a t.x.l.length t.x.cap, .int .i64 t.x.fr, .int .i64 t.x.b] 63)).cell? ⟨Bb, 0, none⟩ = some (.func (.func 132) #[] #[]) := ((bel1 (w := wr) (.cells #[.string t.nm, .int .i64 t.n, .int .i64 t.p.q, .int .i64 t.p.s, .slice t.p.a t.p.l.length t.p.cap, .int .i64 t.p.fr, .int .i64 t.p.b, .int .i64 t.sn, .int .i64 t.x.q, .int .i64 t.x.s, .slice t.x.a t.x.l.length t.x.cap, .int .i64 t.x.fr, .int .i64 t.x.b] 63)).cell (p := ⟨Bb, 0, none⟩) hbl).trans hcb
      clear htk hrow
      gi_wp2_with (refine ⟨trivial, ?_⟩; gi_at_call 132; refine (callsIn_wide.2 (paths_any t _)).mono ?_; rintro e w2 ⟨rfl, hb2⟩)
      have B2 : Below wr.heap.size wr w2 := (bel1 (w := wr) (.cells #[.string t.nm, .int .i64 t.n, .int .i64 t.p.q, .int .i64 t.p.s, .slice t.p.a t.p.l.length t.p.cap, .int .i64 t.p.fr, .int .i64 t.p.b, .int .i64 t.sn, .int .i64 t.x.q, .int .i64 t.x.s, .slice t.x.a t.x.l.length t.x.cap, .int .i64 t.x.fr, .int .i64 t.x.b] 63)).trans (hb2.mono (by simp))
      have H2 : w2.heap[wr.heap.size]? = some (.cells #[.string t.nm, .int .i64 t.n, .int .i64 t.p.q, .int .i64 t.p.s, .slice t.p.a t.p.l.length t.p.cap, .int .i64 t.p.fr, .int .i64 t.p.b, .int .i64 t.sn, .int .i64 t.x.q, .int .i64 t.x.s, .slice t.x.a t.x.l.length t.x.cap, .int .i64 t.x.fr, .int .i64 t.x.b] 63 (0, 0)) := (hb2.block _ (by simp)).trans (heap_alloc_new wr (.cells #[.string t.nm, .int .i64 t.n, .int .i64 t.p.q, .int .i64 t.p.s, .slice t.p.a t.p.l.length t.p.cap, .int .i64 t.p.fr, .int .i64 t.p.b, .int .i64 t.sn, .int .i64 t.x.q, .int .i64 t.x.s, .slice t.x.a t.x.l.length t.x.cap, .int .i64 t.x.fr, .int .i64 t.x.b] 63))
      obtain ⟨pre, hpre, hJs⟩ := hJs
      have J2 := hJ _ _ _ hJs (grown_none B2)
      have K2 : KeepS n₀ b W w2 := hnx.trans (KeepS.of (by have := hnx.size; omega) B2)
      clear hJs e0 e1 e2 e3 e4 e5 e6 e7 e8 e9 e10 e11 e12 hcb hcb2 hb2 B2
      generalize wr.heap.size = B3 at H2 ⊢
      gi_loopw [17] (fun i wr3 => ∃ j : Nat, j ≤ 2 ∧ i = .int .i64 j ∧ (∃ pre : List (NE ts), J pre wr3 ∧ ((j = 0 ∧ pre.map vN = mayTo ts k) ∨ (j = 1 ∧ pre.map vN = mayTo ts k ++ [(t.nm, t.p)]) ∨ (j = 2 ∧ pre.map vN = mayTo ts (k + 1)))) ∧ KeepS n₀ b W wr3 ∧ wr3.heap[B3]? = some (.cells #[.string t.nm, .int .i64 t.n, .int .i64 t.p.q, .int .i64 t.p.s, .slice t.p.a t.p.l.length t.p.cap, .int .i64 t.p.fr, .int .i64 t.p.b, .int .i64 t.sn, .int .i64 t.x.q, .int .i64 t.x.s, .slice t.x.a t.x.l.length t.x.cap, .int .i64 t.x.fr, .int .i64 t.x.b] 63 (0, 0))) (fun i _ => 2 - (intOf i).toNat)
      case atStart => exact ⟨0, by omega, rfl, ⟨pre, J2, .inl ⟨rfl, hpre⟩⟩, K2, H2⟩
      case round =>
        clear J2 K2 H2 hpre pre
        obtain ⟨j, hj, rfl, ⟨pre, hJs, hpre⟩, hk3, hH⟩ := hrel
        rcases hpre with ⟨rfl, hpre⟩ | ⟨rfl, hpre⟩ | ⟨rfl, hpre⟩
        · skip
          obtain ⟨fn, tmps, assign, body, hy, hR⟩ := hY pre ⟨(t.nm, t.p), mem_held HT.out⟩ (wr.alloc (.cells #[.int .i64 t.p.q, .int .i64 t.p.s, .slice t.p.a t.p.l.length t.p.cap, .int .i64 t.p.fr, .int .i64 t.p.b] 38)) (hJ _ _ _ hJs (grown_none (bel1 _))) (by have e := congrArg List.length hpre; rw [List.length_map, mayTo_length (by omega)] at e; omega)
          have hnext : Hid ((pre ++ [(⟨(t.nm, t.p), mem_held HT.out⟩ : NE ts)]).map vN = mayTo ts k ++ [(t.nm, t.p)]) := by show _ = _; rw [List.map_append, hpre]; rfl
          have hpl : pre.length < 2 * ts.length := by have e := congrArg List.length hpre; rw [List.length_map, mayTo_length (by omega)] at e; omega
          clear hpre
          dsimp only [encN] at hy
          clear hY
          have c0 : (wr.alloc (.cells #[.int .i64 t.p.q, .int .i64 t.p.s, .slice t.p.a t.p.l.length t.p.cap, .int .i64 t.p.fr, .int .i64 t.p.b] 38)).cell? ⟨B3, 0, none⟩ = some (.string t.nm) := ((bel1 (w := wr) (.cells #[.int .i64 t.p.q, .int .i64 t.p.s, .slice t.p.a t.p.l.length t.p.cap, .int .i64 t.p.fr, .int .i64 t.p.b] 38)).cell (p := ⟨B3, 0, none⟩) (lt_of_block hH)).trans (cl_cells (cl_block hH)).1
          have ix := idx0 t
          gi_wp2_with fail
          refine hR.mono ?_
          rintro e W3 (⟨rfl, hJ3, hk4⟩ | ⟨rfl, hJx3⟩)
          · gi_wp2
            go_roundw
            case rel => exact ⟨1, by omega, rfl, ⟨_, hJ3, .inr (.inl ⟨rfl, hnext.out⟩)⟩, (hk3.trans (KeepS.of (by have := hk3.size; omega) (bel1 _))).trans hk4, hk4.held _ _ (((bel1 (w := wr) (.cells #[.int .i64 t.p.q, .int .i64 t.p.s, .slice t.p.a t.p.l.length t.p.cap, .int .i64 t.p.fr, .int .i64 t.p.b] 38)).block _ (lt_of_block hH)).trans hH)⟩
            case measure => simp [intOf]
          · gi_wp2
            refine bodyPost_ret (results_none rfl _ _ _) rfl ?_
            exact ⟨⟨_, rfl⟩, .inr ⟨_, by rw [hnext.out]; exact mayTo_pre1 HT.out, hJx3⟩⟩
        · skip
          obtain ⟨fn, tmps, assign, body, hy, hR⟩ := hY pre ⟨(t.nm, t.x), mem_sent HT.out⟩ (wr.alloc (.cells #[.int .i64 t.x.q, .int .i64 t.x.s, .slice t.x.a t.x.l.length t.x.cap, .int .i64 t.x.fr, .int .i64 t.x.b] 38)) (hJ _ _ _ hJs (grown_none (bel1 _))) (by have e := congrArg List.length hpre; rw [List.length_map, List.length_append, mayTo_length (by omega), List.length_singleton] at e; omega)
          have hnext : Hid ((pre ++ [(⟨(t.nm, t.x), mem_sent HT.out⟩ : NE ts)]).map vN = mayTo ts k ++ [(t.nm, t.p)] ++ [(t.nm, t.x)]) := by show _ = _; rw [List.map_append, hpre]; rfl
          have hpl : pre.length < 2 * ts.length := by have e := congrArg List.length hpre; rw [List.length_map, List.length_append, mayTo_length (by omega), List.length_singleton] at e; omega
          clear hpre
          dsimp only [encN] at hy
          clear hY
          have c0 : (wr.alloc (.cells #[.int .i64 t.x.q, .int .i64 t.x.s, .slice t.x.a t.x.l.length t.x.cap, .int .i64 t.x.fr, .int .i64 t.x.b] 38)).cell? ⟨B3, 0, none⟩ = some (.string t.nm) := ((bel1 (w := wr) (.cells #[.int .i64 t.x.q, .int .i64 t.x.s, .slice t.x.a t.x.l.length t.x.cap, .int .i64 t.x.fr, .int .i64 t.x.b] 38)).cell (p := ⟨B3, 0, none⟩) (lt_of_block hH)).trans (cl_cells (cl_block hH)).1
          have ix := idx1 t
          gi_wp2_with fail
          refine hR.mono ?_
          rintro e W3 (⟨rfl, hJ3, hk4⟩ | ⟨rfl, hJx3⟩)
          · gi_wp2
            go_roundw
            case rel => exact ⟨2, by omega, rfl, ⟨_, hJ3, .inr (.inr ⟨rfl, by rw [hnext.out, mayTo_succ HT.out]; simp [bothOf]⟩)⟩, (hk3.trans (KeepS.of (by have := hk3.size; omega) (bel1 _))).trans hk4, hk4.held _ _ (((bel1 (w := wr) (.cells #[.int .i64 t.x.q, .int .i64 t.x.s, .slice t.x.a t.x.l.length t.x.cap, .int .i64 t.x.fr, .int .i64 t.x.b] 38)).block _ (lt_of_block hH)).trans hH)⟩
            case measure => simp [intOf]
          · gi_wp2
            refine bodyPost_ret (results_none rfl _ _ _) rfl ?_
            exact ⟨⟨_, rfl⟩, .inr ⟨_, by rw [hnext.out]; obtain ⟨post, hp⟩ := mayTo_pre ts (k + 1); exact ⟨post, by rw [hp, mayTo_succ HT.out]; simp [bothOf]⟩, hJx3⟩⟩
        · gi_wp2
          go_roundw
          case rel => exact ⟨k + 1, by omega, by go_num, ⟨pre, hpre, hJs⟩, hk3⟩
          case measure => simp [intOf]; omega
    · obtain rfl : k = ts.length := by omega
      gi_wp2
      go_end0
      obtain ⟨pre, hpre, hJs⟩ := hJs
      exact ⟨⟨_, rfl⟩, .inl ⟨_, hpre.trans (mayTo_all ts), hJs⟩⟩
end Go.Proofs.YtgjleeamhkolhaaGreatDoor

namespace Go.Proofs.YtgjleeamhkolhaaGreatDoor
open Go.RowKit

theorem less_total : ∀ a b : List UInt8, (Op.bytesLess a b || a == b) = !Op.bytesLess b a
  | [], [] => by simp [Op.bytesLess]
  | [], _ :: _ => by simp [Op.bytesLess]
  | _ :: _, [] => by simp [Op.bytesLess]
  | x :: a, y :: b => by
    have ih := less_total a b
    rcases (show x < y ∨ x = y ∨ y < x by rcases Nat.lt_trichotomy x.toNat y.toNat with h | h | h; · exact .inl h
                                          · exact .inr (.inl (UInt8.toNat_inj.1 h))
                                          · exact .inr (.inr h)) with h | rfl | h
    · have h1 : ¬ y < x := by intro h2; exact absurd (UInt8.lt_iff_toNat_lt.1 h) (by have := UInt8.lt_iff_toNat_lt.1 h2; omega)
      have h2 : ¬ y = x := by intro e; subst e; exact h1 h
      simp [Op.bytesLess, h, h1, h2]
    · have h1 : ¬ x < x := by intro h2; have := UInt8.lt_iff_toNat_lt.1 h2; omega
      simp [Op.bytesLess, h1]
      simpa using ih
    · have h1 : ¬ x < y := by intro h2; exact absurd (UInt8.lt_iff_toNat_lt.1 h) (by have := UInt8.lt_iff_toNat_lt.1 h2; omega)
      have h2 : x ≠ y := by intro e; subst e; exact h1 h
      simp [Op.bytesLess, h, h1, h2]
/-- A name comes ahead of another one. -/
def ltN (a b : ByteArray) : Bool := Op.bytesLess a.toList b.toList
theorem ltN_le (a b : ByteArray) : (Op.bytesLess a.toList b.toList || a.toList == b.toList) = !ltN b a := less_total _ _

/-- What of a tube ProbeSkyOk looks at. -/
def key (t : Tb) : ByteArray × List Bx := (t.nm, t.l)
def keyB (k : ByteArray × List Bx) : Bool := nameB k.1 && decide (k.2.length ≤ 40) && k.2.all boxB
theorem keyB_key (t : Tb) : keyB (key t) = tubeB t := rfl
def nmAt (ks : List (ByteArray × List Bx)) (i : Nat) : ByteArray := (ks.getD i (⟨#[]⟩, [])).1
/-- The i-th comes behind the one ahead of it. -/
def ascAt (ks : List (ByteArray × List Bx)) (i : Nat) : Bool := decide (i = 0) || ltN (nmAt ks (i - 1)) (nmAt ks i)
def ascTo (ks : List (ByteArray × List Bx)) (k : Nat) : Bool := (List.range k).all (ascAt ks)
theorem ascTo_succ (ks : List (ByteArray × List Bx)) (k : Nat) : ascTo ks (k + 1) = (ascTo ks k && ascAt ks k) := by simp [ascTo, List.range_succ, List.all_append]
theorem ascTo_not {ks : List (ByteArray × List Bx)} {k n : Nat} (hk : k < n) (h : ascAt ks k = false) : ascTo ks n = false := by
  unfold ascTo; rw [List.all_eq_false]; exact ⟨k, by simpa using hk, by simp [h]⟩
/-- Tubes are ok together. -/
def skyB (ts : List Tb) : Bool := decide (ts.length ≤ 24) && ts.all tubeB && ascTo (ts.map key) ts.length
theorem nmAt_key {ts : List Tb} {i : Nat} {t : Tb} (h : ts[i]? = some t) : nmAt (ts.map key) i = t.nm := by
  unfold nmAt; simp [List.getD, List.getElem?_map, h, key]
theorem ascAt_key {ts : List Tb} {i : Nat} {s t : Tb} (hs : ts[i]? = some s) (ht : ts[i + 1]? = some t) : ascAt (ts.map key) (i + 1) = ltN s.nm t.nm := by
  unfold ascAt; rw [Nat.add_sub_cancel, nmAt_key hs, nmAt_key ht]; simp
end Go.Proofs.YtgjleeamhkolhaaGreatDoor
