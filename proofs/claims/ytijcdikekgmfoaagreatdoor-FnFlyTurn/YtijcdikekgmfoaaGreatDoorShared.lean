/- FlyShared, of the specification and of the program, by their contracts. -/
import Derived.Test.YtijcdikekgmfoaaGreatDoorSharedData
import Derived.Test.YtijcdikekgmfoaaGreatDoorPathKit
import Derived.Test.YtijcdikekgmfoaaGreatDoorSpanLeaf
import Derived.BigQuiet
namespace Go.Proofs.YtijcdikekgmfoaaGreatDoor
open Go.RowKit

/-- Two paths in boxes of a call's own. -/
structure TwoP (w wr : World) (q s fr b : Int) (v : Value) (q' s' fr' b' : Int) (v' : Value) : Prop where
  old : Below w.heap.size w wr
  pa : PathAt wr w.heap.size q s fr b v
  pb : PathAt wr (w.heap.size + 1) q' s' fr' b' v'
section
variable {w wr w' : World} {q s fr b q' s' fr' b' : Int} {v v' : Value}
theorem TwoP.new (w : World) (q s fr b : Int) (v : Value) (q' s' fr' b' : Int) (v' : Value) : TwoP w ((w.alloc (.cells #[.int .i64 q, .int .i64 s, v, .int .i64 fr, .int .i64 b] 27)).alloc (.cells #[.int .i64 q', .int .i64 s', v', .int .i64 fr', .int .i64 b'] 27)) q s fr b v q' s' fr' b' v' := by
  have P0 := PathAt.new (w.alloc (.cells #[.int .i64 q, .int .i64 s, v, .int .i64 fr, .int .i64 b] 27)) q' s' fr' b' v'
  rw [World.size_alloc] at P0
  exact ⟨((Below.refl _ _).alloc (Nat.le_refl _) _).alloc (by simp) _, (PathAt.new w q s fr b v).keep ((Below.refl _ _).alloc (Nat.le_refl _) _) (PathAt.new w q s fr b v).lt, P0⟩
theorem TwoP.below (h : TwoP w wr q s fr b v q' s' fr' b' v') (hb : Below wr.heap.size wr w') : TwoP w w' q s fr b v q' s' fr' b' v' :=
  ⟨h.old.trans (hb.mono h.old.size), h.pa.keep hb h.pa.lt, h.pb.keep hb h.pb.lt⟩
theorem TwoP.drew (h : TwoP w wr q s fr b v q' s' fr' b' v') : TwoP w wr.drew q s fr b v q' s' fr' b' v' := h.below (Below.refl _ _).drew
end

theorem shared_is {q s q' s' : Int} {l l' : List Stp} {k : Nat} (h1 : k ≤ l.length) (h2 : k ≤ l'.length) (h3 : ∀ j, j < k → sameAt l l' j = true) (h4 : k = 0 ∨ kindEq q s q' s' = true) (h5 : k = l.length ∨ k = l'.length ∨ sameAt l l' k = false ∨ kindEq q s q' s' = false) : sharedN q s l q' s' l' = k := by
  unfold sharedN
  cases hk : kindEq q s q' s' with
  | false =>
    rcases h4 with rfl | h4
    · rfl
    · rw [hk] at h4; cases h4
  | true =>
    rw [if_pos rfl]
    refine preN_at k l l' h1 h2 h3 ?_
    rcases h5 with h | h | h | h
    · exact Or.inl h
    · exact Or.inr (Or.inl h)
    · exact Or.inr (Or.inr h)
    · rw [hk] at h; cases h

set_option maxRecDepth 20000 in
set_option maxHeartbeats 4000000 in
theorem sharedS_any (q s fr b : Int) (a : Option Addr) (b0 o cap : Nat) (l : List Stp) (q' s' fr' b' : Int) (a' : Option Addr) (b0' o' cap' : Nat) (l' : List Stp) (w : World) (hl : l.length ≤ 1048576) (hl' : l'.length ≤ 1048576) (hs : StepsAt w a b0 o l) (hs' : StepsAt w a' b0' o' l') :
    Calls Tryz.prog 31 #[.agg #[.int .i64 q, .int .i64 s, .slice a l.length cap, .int .i64 fr, .int .i64 b], .agg #[.int .i64 q', .int .i64 s', .slice a' l'.length cap', .int .i64 fr', .int .i64 b']] w
      fun e w' => e = .returned (.int .i64 (sharedN q s l q' s' l' : Nat)) ∧ Below w.heap.size w w' := by
  have T0 := TwoP.new w q s fr b (.slice a l.length cap) q' s' fr' b' (.slice a' l'.length cap')
  go_enter Tryz.func31, Tryz.ntmps31
  go_wp2
  go_loopw [5] (fun s5 wr => ∃ k : Nat, s5 = .int .i64 (k : Int) ∧ k ≤ l.length ∧ k ≤ l'.length ∧ (∀ j, j < k → sameAt l l' j = true) ∧ (k = 0 ∨ kindEq q s q' s' = true) ∧ TwoP w wr q s fr b (.slice a l.length cap) q' s' fr' b' (.slice a' l'.length cap')) (fun s5 _ => l.length - (intOf s5).toNat)
  case atStart => exact ⟨0, rfl, by omega, by omega, fun j hj => by omega, Or.inl rfl, T0⟩
  case round =>
    clear T0
    obtain ⟨k, rfl, hk, hk', hall, hkd, T⟩ := hrel
    obtain ⟨⟨p0, p1, p2, p3, p4⟩, _⟩ := T.pa.cells
    obtain ⟨⟨r0, r1, r2, r3, r4⟩, _⟩ := T.pb.cells
    have HA : Hid (∀ j, j < k → sameAt l l' j = true) := hall
    have HK : Hid (k = 0 ∨ kindEq q s q' s' = true) := hkd
    have k0 : (0 : Int) ≤ (k : Int) := by omega
    have HT : Hid (Below w.heap.size w wr) := T.old
    have HT2 : Hid (TwoP w wr q s fr b (.slice a l.length cap) q' s' fr' b' (.slice a' l'.length cap')) := T
    clear hall hkd
    have eqk := run_eql_kind q s q' s'
    by_cases g1 : k < l.length
    · have k1 : (k : Int) < (l.length : Int) := by omega
      have d1 : decide ((k : Int) < (l.length : Int)) = true := by simpa using k1
      by_cases g2 : k < l'.length
      · have k2 : (k : Int) < (l'.length : Int) := by omega
        have d2 : decide ((k : Int) < (l'.length : Int)) = true := by simpa using k2
        obtain ⟨t, ht⟩ : ∃ t, l[k]? = some t := ⟨_, List.getElem?_eq_getElem g1⟩
        obtain ⟨u, hu⟩ : ∃ u, l'[k]? = some u := ⟨_, List.getElem?_eq_getElem g2⟩
        have hne : l ≠ [] := by intro e; subst e; simp at g1
        have hne' : l' ≠ [] := by intro e; subst e; simp at g2
        obtain rfl := hs.here hne
        obtain rfl := hs'.here hne'
        obtain ⟨c0, c1, c2, c3, c4, c5, c6⟩ := (hs.below T.old hs.lt).seven ht
        obtain ⟨e0, e1, e2, e3, e4, e5, e6⟩ := (hs'.below T.old hs'.lt).seven hu
        have HS : Hid (sameAt l l' k = sameB t u) := by show _ = _; unfold sameAt; simp [List.getD_eq_getElem?_getD, ht, hu]
        have eqs := run_eql_step t u
        clear T ht hu
        cases d3 : sameB t u with
        | false =>
          rw [d3] at HS
          simp only [d3] at eqs
          go_wp2
          go_quiet (fail)
          go_wp2
          go_ret
          exact ⟨by rw [shared_is hk hk' HA.out HK.out (Or.inr (Or.inr (Or.inl HS.out)))]; rfl, HT.out.trans ⟨rfl, rfl, rfl, Nat.le_refl _, fun _ _ => rfl⟩⟩
        | true =>
          rw [d3] at HS
          simp only [d3] at eqs
          rcases Bool.eq_false_or_eq_true (kindEq q s q' s') with d4 | d4
          rotate_left
          · simp only [d4] at eqk
            go_wp2
            go_quiet (fail)
            go_wp2
            go_ret
            exact ⟨by rw [shared_is hk hk' HA.out HK.out (Or.inr (Or.inr (Or.inr d4)))]; rfl, HT.out.trans ⟨rfl, rfl, rfl, Nat.le_refl _, fun _ _ => rfl⟩⟩
          · simp only [d4] at eqk
            go_wp2
            go_quiet (fail)
            go_wp2
            go_roundw
            case rel => exact ⟨k + 1, by simp, by omega, by omega, fun j hj => by
              by_cases e : j = k
              · subst e; exact HS.out
              · exact HA.out j (by omega), Or.inr d4, HT2.out.below ⟨rfl, rfl, rfl, Nat.le_refl _, fun _ _ => rfl⟩⟩
            case measure => simp [intOf]; omega
      · have d2 : decide ((k : Int) < (l'.length : Int)) = false := by simp; omega
        obtain rfl : k = l'.length := by omega
        clear T
        go_wp2
        go_quiet (fail)
        go_wp2
        go_ret
        exact ⟨by rw [shared_is hk (Nat.le_refl _) HA.out HK.out (Or.inr (Or.inl rfl))]; rfl, HT.out.trans ⟨rfl, rfl, rfl, Nat.le_refl _, fun _ _ => rfl⟩⟩
    · have d1 : decide ((k : Int) < (l.length : Int)) = false := by simp; omega
      obtain rfl : k = l.length := by omega
      clear T
      go_wp2
      go_quiet (fail)
      go_wp2
      go_ret
      exact ⟨by rw [shared_is (Nat.le_refl _) hk' HA.out HK.out (Or.inl rfl)]; rfl, HT.out.trans ⟨rfl, rfl, rfl, Nat.le_refl _, fun _ _ => rfl⟩⟩

set_option maxRecDepth 20000 in
set_option maxHeartbeats 4000000 in
theorem sharedI_any (q s fr b : Int) (a : Option Addr) (b0 o cap : Nat) (l : List Stp) (q' s' fr' b' : Int) (a' : Option Addr) (b0' o' cap' : Nat) (l' : List Stp) (w : World) (hl : l.length ≤ 1048576) (hl' : l'.length ≤ 1048576) (hs : StepsAt w a b0 o l) (hs' : StepsAt w a' b0' o' l') :
    Calls Tryz.prog 30 #[.agg #[.int .i64 q, .int .i64 s, .slice a l.length cap, .int .i64 fr, .int .i64 b], .agg #[.int .i64 q', .int .i64 s', .slice a' l'.length cap', .int .i64 fr', .int .i64 b']] w
      fun e w' => e = .returned (.int .i64 (sharedN q s l q' s' l' : Nat)) ∧ Below w.heap.size w w' := by
  have T0 := TwoP.new w q s fr b (.slice a l.length cap) q' s' fr' b' (.slice a' l'.length cap')
  have nek := run_neq_kind q s q' s'
  go_enter Tryz.func30, Tryz.ntmps30
  rcases Bool.eq_false_or_eq_true (kindEq q s q' s') with d4 | d4
  rotate_left
  · simp only [d4] at nek
    go_wp2
    go_ret
    exact ⟨by unfold sharedN; rw [d4]; rfl, T0.old⟩
  · simp only [d4] at nek
    by_cases hlt : (l'.length : Int) < (l.length : Int)
    · go_wp2
      clear nek
      go_loopw [20] (fun s20 wr => ∃ k : Nat, s20 = .int .i64 (k : Int) ∧ k ≤ l'.length ∧ (∀ j, j < k → sameAt l l' j = true) ∧ TwoP w wr q s fr b (.slice a l.length cap) q' s' fr' b' (.slice a' l'.length cap')) (fun s20 _ => l'.length - (intOf s20).toNat)
      case atStart => exact ⟨0, rfl, by omega, fun j hj => by omega, T0⟩
      case round =>
        clear T0
        obtain ⟨k, rfl, hk, hall, T⟩ := hrel
        obtain ⟨⟨p0, p1, p2, p3, p4⟩, _⟩ := T.pa.cells
        obtain ⟨⟨r0, r1, r2, r3, r4⟩, _⟩ := T.pb.cells
        have HA : Hid (∀ j, j < k → sameAt l l' j = true) := hall
        have k0 : (0 : Int) ≤ (k : Int) := by omega
        have HT : Hid (TwoP w wr q s fr b (.slice a l.length cap) q' s' fr' b' (.slice a' l'.length cap')) := T
        clear hall
        by_cases g1 : k < l'.length
        · have g2 : k < l.length := by omega
          have g3 : k < l'.length := by omega
          have k1 : (k : Int) < (l.length : Int) := by omega
          have k2 : (k : Int) < (l'.length : Int) := by omega
          obtain ⟨t, ht⟩ : ∃ t, l[k]? = some t := ⟨_, List.getElem?_eq_getElem g2⟩
          obtain ⟨u, hu⟩ : ∃ u, l'[k]? = some u := ⟨_, List.getElem?_eq_getElem g3⟩
          have hne : l ≠ [] := by intro e; subst e; simp at g2
          have hne' : l' ≠ [] := by intro e; subst e; simp at g3
          obtain rfl := hs.here hne
          obtain rfl := hs'.here hne'
          obtain ⟨c0, c1, c2, c3, c4, c5, c6⟩ := (hs.below T.old hs.lt).seven ht
          obtain ⟨e0, e1, e2, e3, e4, e5, e6⟩ := (hs'.below T.old hs'.lt).seven hu
          have HS : Hid (sameAt l l' k = sameB t u) := by show _ = _; unfold sameAt; simp [List.getD_eq_getElem?_getD, ht, hu]
          have nes := run_neq_step t u
          clear T ht hu
          cases d3 : sameB t u with
          | false =>
            rw [d3] at HS
            simp only [d3] at nes
            go_wp2
            go_quiet (fail)
            go_wp2
            go_ret
            exact ⟨by rw [shared_is (Nat.le_of_lt g2) (Nat.le_of_lt g3) HA.out (Or.inr d4) (Or.inr (Or.inr (Or.inl HS.out)))]; rfl, HT.out.old.trans ⟨rfl, rfl, rfl, Nat.le_refl _, fun _ _ => rfl⟩⟩
          | true =>
            rw [d3] at HS
            simp only [d3] at nes
            go_wp2
            go_quiet (fail)
            go_wp2
            go_roundw
            case rel => exact ⟨k + 1, by simp, by omega, fun j hj => by
              by_cases e : j = k
              · subst e; exact HS.out
              · exact HA.out j (by omega), HT.out.below ⟨rfl, rfl, rfl, Nat.le_refl _, fun _ _ => rfl⟩⟩
            case measure => simp [intOf]; omega
        · obtain rfl : k = l'.length := by omega
          clear T
          go_wp2
          go_ret
          exact ⟨by rw [shared_is (by omega) (by omega) HA.out (Or.inr d4) (Or.inr (Or.inl rfl))]; rfl, HT.out.old⟩
    · go_wp2
      clear nek
      go_loopw [20] (fun s20 wr => ∃ k : Nat, s20 = .int .i64 (k : Int) ∧ k ≤ l.length ∧ (∀ j, j < k → sameAt l l' j = true) ∧ TwoP w wr q s fr b (.slice a l.length cap) q' s' fr' b' (.slice a' l'.length cap')) (fun s20 _ => l.length - (intOf s20).toNat)
      case atStart => exact ⟨0, rfl, by omega, fun j hj => by omega, T0⟩
      case round =>
        clear T0
        obtain ⟨k, rfl, hk, hall, T⟩ := hrel
        obtain ⟨⟨p0, p1, p2, p3, p4⟩, _⟩ := T.pa.cells
        obtain ⟨⟨r0, r1, r2, r3, r4⟩, _⟩ := T.pb.cells
        have HA : Hid (∀ j, j < k → sameAt l l' j = true) := hall
        have k0 : (0 : Int) ≤ (k : Int) := by omega
        have HT : Hid (TwoP w wr q s fr b (.slice a l.length cap) q' s' fr' b' (.slice a' l'.length cap')) := T
        clear hall
        by_cases g1 : k < l.length
        · have g2 : k < l.length := by omega
          have g3 : k < l'.length := by omega
          have k1 : (k : Int) < (l.length : Int) := by omega
          have k2 : (k : Int) < (l'.length : Int) := by omega
          obtain ⟨t, ht⟩ : ∃ t, l[k]? = some t := ⟨_, List.getElem?_eq_getElem g2⟩
          obtain ⟨u, hu⟩ : ∃ u, l'[k]? = some u := ⟨_, List.getElem?_eq_getElem g3⟩
          have hne : l ≠ [] := by intro e; subst e; simp at g2
          have hne' : l' ≠ [] := by intro e; subst e; simp at g3
          obtain rfl := hs.here hne
          obtain rfl := hs'.here hne'
          obtain ⟨c0, c1, c2, c3, c4, c5, c6⟩ := (hs.below T.old hs.lt).seven ht
          obtain ⟨e0, e1, e2, e3, e4, e5, e6⟩ := (hs'.below T.old hs'.lt).seven hu
          have HS : Hid (sameAt l l' k = sameB t u) := by show _ = _; unfold sameAt; simp [List.getD_eq_getElem?_getD, ht, hu]
          have nes := run_neq_step t u
          clear T ht hu
          cases d3 : sameB t u with
          | false =>
            rw [d3] at HS
            simp only [d3] at nes
            go_wp2
            go_quiet (fail)
            go_wp2
            go_ret
            exact ⟨by rw [shared_is (Nat.le_of_lt g2) (Nat.le_of_lt g3) HA.out (Or.inr d4) (Or.inr (Or.inr (Or.inl HS.out)))]; rfl, HT.out.old.trans ⟨rfl, rfl, rfl, Nat.le_refl _, fun _ _ => rfl⟩⟩
          | true =>
            rw [d3] at HS
            simp only [d3] at nes
            go_wp2
            go_quiet (fail)
            go_wp2
            go_roundw
            case rel => exact ⟨k + 1, by simp, by omega, fun j hj => by
              by_cases e : j = k
              · subst e; exact HS.out
              · exact HA.out j (by omega), HT.out.below ⟨rfl, rfl, rfl, Nat.le_refl _, fun _ _ => rfl⟩⟩
            case measure => simp [intOf]; omega
        · obtain rfl : k = l.length := by omega
          clear T
          go_wp2
          go_ret
          exact ⟨by rw [shared_is (by omega) (by omega) HA.out (Or.inr d4) (Or.inl rfl)]; rfl, HT.out.old⟩
end Go.Proofs.YtijcdikekgmfoaaGreatDoor
