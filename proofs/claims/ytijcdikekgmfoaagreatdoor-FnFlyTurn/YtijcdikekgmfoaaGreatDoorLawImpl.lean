/- The program's windows and stays, by their contracts. -/
import Derived.Test.YtijcdikekgmfoaaGreatDoorLawData
import Derived.Test.YtijcdikekgmfoaaGreatDoorIntsAt
import Derived.Test.YtijcdikekgmfoaaGreatDoorLawSpec
import Derived.Test.YtijcdikekgmfoaaGreatDoorBoxP
import Derived.Maps.AppendAt
namespace Go.Proofs.YtijcdikekgmfoaaGreatDoor
open Go.RowKit

set_option maxHeartbeats 1000000 in
theorem stay_any (x y lo hi fr b q s : Int) (ho : Bool) (w : World) :
    Calls Tryz.prog 94 #[.agg #[.int .i64 x, .int .i64 y, .int .i64 lo, .int .i64 hi, .int .i64 fr, .int .i64 b, .bool ho], .agg #[.int .i64 q, .int .i64 s]] w
      fun e w' => e = .returned (.tuple #[.int .i64 q, .int .i64 (if ho then 10000 else s)]) ∧ Below w.heap.size w w' := by
  have hb : ∀ c1 c2 : Array Value, Below w.heap.size w ((w.alloc (.cells c1 44)).alloc (.cells c2 24)) := fun c1 c2 => ((Below.refl w.heap.size w).alloc (Nat.le_refl _) _).alloc (by simp) _
  cases ho with
  | true =>
    go_enter Tryz.func94, Tryz.ntmps94
    go_wp2
    go_ret2
    exact ⟨rfl, hb _ _⟩
  | false =>
    go_enter Tryz.func94, Tryz.ntmps94
    go_wp2
    go_quiet (fail)
    go_wp2
    go_ret2
    exact ⟨rfl, (hb _ _).trans ⟨rfl, rfl, rfl, Nat.le_refl _, fun _ _ => rfl⟩⟩

set_option maxHeartbeats 1000000 in
theorem windowS_any (x y lo hi fr b : Int) (ho : Bool) (w : World) :
    Calls Tryz.prog 169 #[.agg #[.int .i64 x, .int .i64 y, .int .i64 lo, .int .i64 hi, .int .i64 fr, .int .i64 b, .bool ho]] w
      fun e w' => e = .returned (.tuple #[.int .i64 fr, .int .i64 b]) ∧ Below w.heap.size w w' := by
  have hb : ∀ c1 : Array Value, Below w.heap.size w (w.alloc (.cells c1 44)) := fun c1 => (Below.refl w.heap.size w).alloc (Nat.le_refl _) _
  go_enter Tryz.func169, Tryz.ntmps169
  go_wp2
  go_quiet (fail)
  go_wp2
  go_ret2
  exact ⟨rfl, (hb _).trans ⟨rfl, rfl, rfl, Nat.le_refl _, fun _ _ => rfl⟩⟩

set_option maxHeartbeats 1000000 in
theorem windowE_any (fr b : Int) (w : World) :
    Calls Tryz.prog 172 #[.agg #[.int .i64 fr, .int .i64 b]] w
      fun e w' => e = .returned (.tuple #[.int .i64 fr, .int .i64 b]) ∧ Below w.heap.size w w' := by
  have hb : ∀ c1 : Array Value, Below w.heap.size w (w.alloc (.cells c1 163)) := fun c1 => (Below.refl w.heap.size w).alloc (Nat.le_refl _) _
  go_enter Tryz.func172, Tryz.ntmps172
  go_wp2
  go_quiet (fail)
  go_wp2
  go_ret2
  exact ⟨rfl, (hb _).trans ⟨rfl, rfl, rfl, Nat.le_refl _, fun _ _ => rfl⟩⟩

theorem bound_info : (Tryz.prog.info? 137).map (fun i => (i.zero, i.size, i.bytes)) = some (some .nilIface, 1, 16) := by kernel_rfl

/-- A step as a bound. -/
abbrev stepV (s : Stp) : Value := .iface 44 s.val
/-- What the list of bounds holds when k steps are in. -/
def bndTo (l : List Stp) (k : Nat) : List Value := (List.range k).map fun i => stepV (l.getD i .zero)
theorem bndTo_succ (l : List Stp) (k : Nat) : bndTo l (k + 1) = bndTo l k ++ [stepV (l.getD k .zero)] := by simp [bndTo, List.range_succ]
theorem bndTo_length (l : List Stp) (k : Nat) : (bndTo l k).length = k := by simp [bndTo]

theorem owns_from {w : World} {base e size n : Nat} {v : Value} {xs : List Value} (h : w.ownsRow base e size v n xs) : ∀ k, v.ownBlock = some k → base ≤ k := by
  intro k hk
  rcases h.2 with ⟨rfl, _⟩ | ⟨g, cap, cur, rfl, hg, _⟩
  · simp [Value.ownBlock] at hk
  · simp [Value.ownBlock] at hk; omega
theorem owns_mono {w : World} {base base' e size n : Nat} {v : Value} {xs : List Value} (h : w.ownsRow base e size v n xs) (hb : base' ≤ base) : w.ownsRow base' e size v n xs :=
  ⟨h.1, h.2.imp id fun ⟨g, cap, cur, h1, h2, h3⟩ => ⟨g, cap, cur, h1, Nat.le_trans hb h2, h3⟩⟩

set_option maxHeartbeats 2000000 in
theorem bounds_any (q s fr b : Int) (a : Option Addr) (b0 o cap : Nat) (l : List Stp) (w : World) (hl : l.length ≤ 1048576) (hs : StepsAt w a b0 o l) :
    Calls Tryz.prog 93 #[.agg #[.int .i64 q, .int .i64 s, .slice a l.length cap, .int .i64 fr, .int .i64 b]] w
      fun e w' => ∃ v, e = .returned v ∧ w'.ownsRow w.heap.size 137 1 v (l.length + 1) (bndTo l l.length ++ [.iface 163 (.agg #[.int .i64 fr, .int .i64 b])]) ∧ Below w.heap.size w w' := by
  obtain ⟨i0, hi, hz0, hz1, hz2⟩ := info_parts bound_info
  go_enter Tryz.func93, Tryz.ntmps93
  go_wp2
  go_loopw [3, 9] (fun u v wr => ∃ k : Nat, k ≤ l.length ∧ v = .int .i64 k ∧ BoxP w wr q s fr b (.slice a l.length cap) ∧ wr.ownsRow (w.heap.size + 1) 137 1 u k (bndTo l k)) (fun _ v _ => l.length - (intOf v).toNat)
  case atStart => exact ⟨0, Nat.zero_le _, rfl, BoxP.new w q s fr b _ _, World.ownsRow_nil _ _ _ _⟩
  case round =>
    obtain ⟨k, hk, rfl, hB, hown⟩ := hrel
    by_cases hlt : k < l.length
    · obtain ⟨t, htk⟩ : ∃ t, l[k]? = some t := ⟨l[k], List.getElem?_eq_getElem hlt⟩
      have hne : l ≠ [] := by intro e; subst e; simp at hlt
      obtain rfl := hs.here hne
      obtain ⟨d0, d1, d2, d3, d4, d5, d6⟩ := (hs.below hB.old hs.lt).seven htk
      have HT : Hid (l.getD k .zero = t) := by show _ = _; simp [List.getD, htk]
      clear htk
      have hz := hB.lt
      have c1 : ∀ (j : Nat) (u : Value), [stepV t][j]? = some u → ((wr.alloc (.cells #[.int .i64 t.x, .int .i64 t.y, .int .i64 t.lo, .int .i64 t.hi, .int .i64 t.fr, .int .i64 t.by_, .bool t.ho] 44)).alloc (.cells #[stepV t] 137)).cell? ((⟨wr.heap.size + 1, 0, none⟩ : Addr).add j) = some u := by
        intro j u hj
        match j, hj with
        | 0, hj => simp at hj; subst hj; simp [Addr.add, go_sem]
      have HC : Hid (∀ (j : Nat) (u : Value), [stepV t][j]? = some u → ((wr.alloc (.cells #[.int .i64 t.x, .int .i64 t.y, .int .i64 t.lo, .int .i64 t.hi, .int .i64 t.fr, .int .i64 t.by_, .bool t.ho] 44)).alloc (.cells #[stepV t] 137)).cell? ((⟨wr.heap.size + 1, 0, none⟩ : Addr).add j) = some u) := c1
      clear c1
      go_wp2_with (at_builtin; (refine wpList_append_own _ rfl _ _ 134 rfl (w.heap.size + 1) 137 i0 .nilIface 1 16 Tryz.underlying134 hi hz0 hz1 hz2 rfl (by decide) _ _ _ rfl ((hown.alloc _).alloc _) ⟨wr.heap.size + 1, 0, none⟩ 1 1 [stepV t] rfl rfl HC.out (by simp [Value.oneCell']) (by unfold maxLen; omega) (by omega) (by simp; omega) ?_); intro v' w1 hown' hgrow _)
      have hbel : Below (w.heap.size + 1) wr w1 := (((Below.refl (w.heap.size + 1) wr).alloc (by omega) _).alloc (by simp; omega) _).grown hgrow (by simp; omega) (owns_from hown)
      refine ⟨⟨k + 1, by omega, by go_num, hB.keep hbel, ?_⟩, by simp [intOf]; omega⟩
      rw [bndTo_succ, HT.out]
      exact hown'
    · obtain rfl : k = l.length := by omega
      have hz := hB.lt
      have p3 := hB.p3
      have p4 := hB.p4
      go_wp2_with (at_builtin; (refine wpList_append_own _ rfl _ _ 134 rfl (w.heap.size + 1) 137 i0 .nilIface 1 16 Tryz.underlying134 hi hz0 hz1 hz2 rfl (by decide) _ _ _ rfl (hown.alloc _) ⟨wr.heap.size, 0, none⟩ 1 1 [.iface 163 (.agg #[.int .i64 fr, .int .i64 b])] rfl rfl (cell_one_new _ _ _) (by simp [Value.oneCell']) (by unfold maxLen; omega) (by omega) (by simp; omega) ?_); intro v' w1 hown' hgrow _)
      have hbel : Below (w.heap.size + 1) wr w1 := ((Below.refl (w.heap.size + 1) wr).alloc (by omega) _).grown hgrow (by simp; omega) (owns_from hown)
      go_ret
      exact ⟨_, rfl, owns_mono hown' (by omega), (hB.keep hbel).old⟩
end Go.Proofs.YtijcdikekgmfoaaGreatDoor
