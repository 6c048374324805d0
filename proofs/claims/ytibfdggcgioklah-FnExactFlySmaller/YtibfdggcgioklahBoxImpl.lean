/- The program's rooms, and its map of them by cells. -/
import Derived.Test.YtibfdggcgioklahRoomKey
import Derived.WalkKit
import Derived.WalkSpells
import Derived.Deep.MidRow
namespace Go.Proofs.Ytibfdggcgioklah
open Go.RowKit

theorem roomOf_any (x y lo hi i o : Int) (w : World) :
    Calls Try.prog 60 #[.agg #[.int .i64 x, .int .i64 y, .int .i64 lo, .int .i64 hi, .int .i64 i, .int .i64 o]] w
      fun e w' => e = .returned (.agg #[.int .i64 x, .int .i64 y, .int .i64 lo, .int .i64 hi, .int .i64 i, .int .i64 o]) ∧ Below w.heap.size w w' := by
  go_enter Try.func60, Try.ntmps60
  go_wp2
  refine bodyPost_ret (v := .agg #[.int .i64 x, .int .i64 y, .int .i64 lo, .int .i64 hi, .int .i64 i, .int .i64 o]) (by simp [results, Try.results60, go_sem]) rfl ⟨rfl, ?_⟩
  exact ((Below.refl _ _).alloc (Nat.le_refl _) _).alloc (by simp) _

theorem spanIn_any (a b c d : Int) (w : World) :
    Calls Try.prog 82 #[.agg #[.int .i64 a, .int .i64 b], .agg #[.int .i64 c, .int .i64 d]] w fun e w' => e = .returned (.bool (decide (c ≤ a) && decide (b ≤ d))) ∧ Below w.heap.size w w' := by
  have hb : ∀ c1 c2 : Array Value, Below w.heap.size w ((w.alloc (.cells c1 75)).alloc (.cells c2 75)) := fun c1 c2 => ((Below.refl w.heap.size w).alloc (Nat.le_refl _) _).alloc (by simp) _
  rcases Bool.eq_false_or_eq_true (decide (c ≤ a)) with h1 | h1
  all_goals
    go_enter Try.func82, Try.ntmps82
    go_wp2
    go_ret
    exact ⟨by simp [h1], hb _ _⟩

theorem room_info : (Try.prog.info? 85).map (fun i => (i.zero, i.size, i.bytes)) = some (some (.agg #[.int .i64 0, .int .i64 0, .int .i64 0, .int .i64 0, .int .i64 0, .int .i64 0]), 6, 48) := by kernel_rfl
theorem rooms_zero (w : World) : (zeroValue 111).run Try.prog w = .ok (.slice none 0 0) w := by kernel_rfl

theorem six_new (w : World) (s : Bx) (t : TypeId) : ∀ (j : Nat) (u : Value), s.cells[j]? = some u → (w.alloc (.cells #[.int .i64 s.x, .int .i64 s.y, .int .i64 s.lo, .int .i64 s.hi, .int .i64 s.in_, .int .i64 s.out] t)).cell? ((⟨w.heap.size, 0, none⟩ : Addr).add j) = some u := by
  intro j u hj
  match j, hj with
  | 0, hj => simp at hj; subst hj; simp [Addr.add, go_sem]
  | 1, hj => simp at hj; subst hj; simp [Addr.add, go_sem]
  | 2, hj => simp at hj; subst hj; simp [Addr.add, go_sem]
  | 3, hj => simp at hj; subst hj; simp [Addr.add, go_sem]
  | 4, hj => simp at hj; subst hj; simp [Addr.add, go_sem]
  | 5, hj => simp at hj; subst hj; simp [Addr.add, go_sem]

theorem six_new2 (w : World) (s : Bx) (o : Obj) (t : TypeId) : ∀ (j : Nat) (u : Value), s.cells[j]? = some u → ((w.alloc o).alloc (.cells #[.int .i64 s.x, .int .i64 s.y, .int .i64 s.lo, .int .i64 s.hi, .int .i64 s.in_, .int .i64 s.out] t)).cell? ((⟨w.heap.size + 1, 0, none⟩ : Addr).add j) = some u := by
  intro j u hj
  have := six_new (w.alloc o) s t j u hj
  rwa [World.size_alloc] at this

set_option maxHeartbeats 2000000 in
set_option maxRecDepth 20000 in
theorem rooms_any (a : Option Addr) (b o cap : Nat) (l : List Bx) (w : World) (hl : l.length ≤ 1048576) (hs : BoxesAt w a b o l) :
    Calls Try.prog 62 #[.slice a l.length cap] w fun e w' => e = .returned (.map (some w.heap.size)) ∧ Groups w' w.heap.size (w.heap.size + 1) 85 l ∧ Below w.heap.size w w' := by
  obtain ⟨i0, hi, hz0, hz1, hz2⟩ := info_parts room_info
  have hmm := @run_makeMap Try.prog
  go_enter Try.func62, Try.ntmps62
  go_wp2
  clear hmm
  go_loopw [10] (fun v wr => ∃ k : Nat, k ≤ l.length ∧ v = .int .i64 k ∧ Below w.heap.size w wr ∧ Groups wr w.heap.size (w.heap.size + 1) 85 (l.take k)) (fun v _ => l.length - (intOf v).toNat)
  case atStart => exact ⟨0, Nat.zero_le _, rfl, (Below.refl _ _).alloc (Nat.le_refl _) _, Groups_made w _⟩
  case round =>
    obtain ⟨k, hk, rfl, hb, hG⟩ := hrel
    by_cases hlt : k < l.length
    · obtain ⟨s, hsk⟩ : ∃ s, l[k]? = some s := ⟨l[k], List.getElem?_eq_getElem hlt⟩
      have hne : l ≠ [] := by intro e; subst e; simp at hlt
      obtain rfl := hs.here hne
      have hbw := hs.lt hne
      obtain ⟨c0, c1, c2, c3, c4, c5⟩ := (hs.below hb (fun _ => hbw)).six hsk
      have k0 : (0 : Int) ≤ (k : Int) := by omega
      have k1 : (k : Int) < (l.length : Int) := by omega
      have HS : Hid (l[k]? = some s) := hsk
      clear hsk
      go_wp2_with fail
      refine (roomOf_any _ _ _ _ _ _ _).mono ?_
      rintro e w2 ⟨rfl, hb2⟩
      have hb02 : Below wr.heap.size wr w2 := ((Below.refl _ _).alloc (Nat.le_refl _) _).trans (hb2.mono (by simp))
      have hG2 := hG.below hb02
      clear hb2
      have hlk : (atC (l.take k) s.x s.y).length ≤ 1048576 := by
        have h1 : (atC (l.take k) s.x s.y).length ≤ (l.take k).length := List.length_filter_le _ _
        have h2 := List.length_take_le k l
        omega
      have hz := hG2.lt
      go_wp2_with (first
        | (refine wpList_mapEntry_cells _ rfl (.tmp 16) (.tmp 18) 88 rfl 83 111 85 cell_key Try.underlying88 (rooms_zero _) (w.heap.size + 1) w.heap.size (l.take k) rfl (hG2.below (((Below.refl _ _).alloc (Nat.le_refl _) _).alloc (by simp) _)) s.x s.y rfl ?_; intro v c w3 hown3 hgr3 hsz3 hback3)
        | (at_builtin; refine wpList_append_own_at _ rfl (.tmp 19) (.tmp 21) 111 rfl (w.heap.size + 1) 85 i0 (.agg #[.int .i64 0, .int .i64 0, .int .i64 0, .int .i64 0, .int .i64 0, .int .i64 0]) 6 48 Try.underlying111 hi hz0 hz1 hz2 rfl (by decide) v _ _ rfl hown3 ⟨w2.heap.size + 1, 0, none⟩ 1 1 s.cells rfl rfl (fun j u hj => hgr3.cell (six_new2 w2 s _ _ j u hj) (by rw [Addr.add_mid]; simp; omega)) (by simp [Value.oneCell']) (by unfold maxLen; omega) (by omega) (by rw [hsz3]; simp; omega) ?_; intro v' w4 hown4 hgrow4 hnil4 hat4)
        | (refine wpList_entryStore_cells _ rfl (.tmp 16) (.tmp 24) (.tmp 23) 88 rfl s hback3 rfl rfl rfl rfl rfl hgrow4 hown4 (hat4.imp id (fun h => ⟨_, h, Nat.le_refl _⟩)) ?_; intro w5 hG5 hgr5))
      go_roundw
      case rel =>
        refine ⟨k + 1, by omega, by go_num, ?_, ?_⟩
        · have b2 : Below w.heap.size w w2 := hb.trans (hb02.mono hb.size)
          have b3 := ((b2.alloc (by omega) (.cells #[.int .i64 s.x, .int .i64 s.y, .int .i64 s.lo, .int .i64 s.hi, .int .i64 s.in_, .int .i64 s.out] 85)).alloc (by simp; omega) (.cells #[.int .i64 s.x, .int .i64 s.y, .int .i64 s.lo, .int .i64 s.hi, .int .i64 s.in_, .int .i64 s.out] 85)).grown hgr3 (by simp; omega) (fun j e => by cases e; exact Nat.le_refl _)
          have b4 := b3.grown hgrow4 (by rw [hsz3]; simp; omega) (fun j e => by have := (hown3.lt j e).1; omega)
          exact b4.grown hgr5 (by have := hgrow4.size; rw [hsz3] at this; simp at this; omega) (fun j e => by cases e; exact Nat.le_refl _)
        · rw [List.take_add_one, HS.out]
          exact hG5
      case measure => simp [intOf]; omega
    · obtain rfl : k = l.length := by omega
      go_wp2
      go_ret
      refine ⟨rfl, ?_, hb⟩
      rw [List.take_length] at hG
      exact hG
end Go.Proofs.Ytibfdggcgioklah
