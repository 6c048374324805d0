/- The map of what was looked at is made but once: sync.Once, one goroutine, the lock free. -/
import Derived.Test.YtijcdikekgmfoaaGreatDoorOnceParts
import Derived.Laws.NewBlocks
namespace Go.Proofs.YtijcdikekgmfoaaGreatDoor
open Go.RowKit

set_option maxRecDepth 100000 in
set_option maxHeartbeats 3200000 in
theorem slow_any (b : Nat) (pl : Addr) (hpb : ¬ b = pl.block) (x3 : Value) (w : World) (hp : w.cell? pl = some (.pointer (some ⟨b, 0, none⟩)))
    (h0 : w.cell? ⟨b, 10, none⟩ = some (.int .u32 0)) (h1 : w.cell? ⟨b, 11, none⟩ = some (.int .i32 0)) (h3 : w.cell? ⟨b, 13, none⟩ = some x3)
    (hf : ∀ j, w.frozen? ⟨b, j, none⟩ = false) :
    Calls Tryz.prog 128 #[.pointer (some ⟨b, 10, none⟩), .func (.func 125) #[] #[.pointer (some pl)]] w fun e w' => e = .returned (.tuple #[]) ∧
      w' = ((((w.setCell ⟨b, 11, none⟩ (.int .i32 1)).alloc (.map #[] 0)).setCell ⟨b, 13, none⟩ (.map (some w.heap.size))).drew.setCell ⟨b, 10, none⟩ (.int .u32 1)).setCell ⟨b, 11, none⟩ (.int .i32 0) := by
  have hmm := @run_makeMap Tryz.prog
  have hl := run_call_load (P := Tryz.prog) Tryz.func130 (by kernel_rfl) (by kernel_rfl) (by kernel_rfl) .u32 (by kernel_rfl) (w := w.setCell ⟨b, 11, none⟩ (.int .i32 1)) (a := ⟨b, 10, none⟩) (x := 0) ((World.cell?_setCell_other _ ⟨b, 11, none⟩ ⟨b, 10, none⟩ _ (by simp)).trans h0)
  have hp1 : (w.setCell ⟨b, 11, none⟩ (.int .i32 1)).cell? pl = some (.pointer (some ⟨b, 0, none⟩)) := (World.cell?_setCell_other _ ⟨b, 11, none⟩ pl _ (fun h => hpb (by rw [← h]))).trans hp
  have h31 : (w.setCell ⟨b, 11, none⟩ (.int .i32 1)).cell? ⟨b, 13, none⟩ = some x3 := (World.cell?_setCell_other _ ⟨b, 11, none⟩ ⟨b, 13, none⟩ _ (by simp)).trans h3
  have hb : b < (w.setCell ⟨b, 11, none⟩ (.int .i32 1)).heap.size := World.block_lt_of_cell? _ _ h31
  have h32 : ((w.setCell ⟨b, 11, none⟩ (.int .i32 1)).alloc (.map #[] 0)).cell? ⟨b, 13, none⟩ = some x3 := by rw [World.cell?_alloc_past _ _ _ hb]; exact h31
  have f32 : ((w.setCell ⟨b, 11, none⟩ (.int .i32 1)).alloc (.map #[] 0)).frozen? ⟨b, 13, none⟩ = false := by rw [World.frozen?_alloc_past _ _ _ hb]; simp [hf]
  have hnot : ∀ (x : Bool) (w : World), (Op.unary .not (.bool x)).run Tryz.prog w = .ok (.bool (!x)) w := fun _ _ => rfl
  go_enter_defers Tryz.func128, Tryz.ntmps128
  go_wp2_with (go_at_call 131; refine (lock_free ⟨b, 11, none⟩ _ (by go_simp) (by go_simp)).mono ?_; rintro e w' ⟨rfl, rfl⟩)
  go_wp2
  go_end0
  go_wp2
  refine leaves_cons (f := 133) (args := #[.pointer (some ⟨b, 10, none⟩), .bool true]) (by simp) (by simp [go_sem]) ?_
  refine (store_deferred ⟨b, 10, none⟩ (.int .u32 0) .returning _ ?_ (by simp [World.frozen?_alloc_past _ _ _ hb, hf])).mono ?_
  · exact (World.cell?_setCell_other _ ⟨b, 13, none⟩ ⟨b, 10, none⟩ _ (by simp)).trans ((World.cell?_alloc_past _ _ _ hb).trans ((World.cell?_setCell_other _ ⟨b, 11, none⟩ ⟨b, 10, none⟩ _ (by simp)).trans h0))
  rintro e u' w'' ⟨rfl, rfl, rfl⟩
  refine leaves_cons (f := 132) (args := #[.pointer (some ⟨b, 11, none⟩)]) (by simp [settle]) (by simp [go_sem]) ?_
  refine (unlock_deferred ⟨b, 11, none⟩ _ _ ?_ (by simp [World.frozen?_alloc_past _ _ _ hb, hf])).mono ?_
  · refine (World.cell?_setCell_other _ ⟨b, 10, none⟩ ⟨b, 11, none⟩ _ (by simp)).trans ?_
    rw [World.cell?_drew]
    exact (World.cell?_setCell_other _ ⟨b, 13, none⟩ ⟨b, 11, none⟩ _ (by simp)).trans ((World.cell?_alloc_past _ _ _ hb).trans (World.cell?_setCell_same w _ _ h1))
  rintro e u' w'' ⟨rfl, rfl, rfl⟩
  simp [Leaves, settle, results, Tryz.results128]

set_option maxRecDepth 100000 in
set_option maxHeartbeats 1600000 in
/-- Not yet done. -/
theorem do_first (b : Nat) (pl : Addr) (hpb : ¬ b = pl.block) (x3 : Value) (w : World) (hp : w.cell? pl = some (.pointer (some ⟨b, 0, none⟩)))
    (h0 : w.cell? ⟨b, 10, none⟩ = some (.int .u32 0)) (h1 : w.cell? ⟨b, 11, none⟩ = some (.int .i32 0)) (h3 : w.cell? ⟨b, 13, none⟩ = some x3)
    (hf : ∀ j, w.frozen? ⟨b, j, none⟩ = false) :
    Calls Tryz.prog 124 #[.pointer (some ⟨b, 10, none⟩), .func (.func 125) #[] #[.pointer (some pl)]] w fun e w' => e = .returned (.tuple #[]) ∧
      w' = ((((w.setCell ⟨b, 11, none⟩ (.int .i32 1)).alloc (.map #[] 0)).setCell ⟨b, 13, none⟩ (.map (some w.heap.size))).drew.setCell ⟨b, 10, none⟩ (.int .u32 1)).setCell ⟨b, 11, none⟩ (.int .i32 0) := by
  have hl := run_call_load (P := Tryz.prog) Tryz.func130 (by kernel_rfl) (by kernel_rfl) (by kernel_rfl) .u32 (by kernel_rfl) h0
  have hnot : ∀ (x : Bool) (w : World), (Op.unary .not (.bool x)).run Tryz.prog w = .ok (.bool (!x)) w := fun _ _ => rfl
  go_enter Tryz.func124, Tryz.ntmps124
  go_wp2_with (first | (go_at_call 128; refine (slow_any b pl hpb x3 _ hp h0 h1 h3 hf).mono ?_; rintro e w' ⟨rfl, rfl⟩) | (go_at_call 127; go_in))
  go_end0
  exact ⟨rfl, rfl⟩
/-- Done already. -/
theorem do_done (a : Addr) (fv : Value) (w : World) (h0 : w.cell? a = some (.int .u32 1)) :
    Calls Tryz.prog 124 #[.pointer (some a), fv] w fun e w' => e = .returned (.tuple #[]) ∧ w' = w := by
  have hl := run_call_load (P := Tryz.prog) Tryz.func130 (by kernel_rfl) (by kernel_rfl) (by kernel_rfl) .u32 (by kernel_rfl) h0
  have hnot : ∀ (x : Bool) (w : World), (Op.unary .not (.bool x)).run Tryz.prog w = .ok (.bool (!x)) w := fun _ _ => rfl
  go_enter Tryz.func124, Tryz.ntmps124
  go_wp2
  go_end0
  exact ⟨rfl, rfl⟩
end Go.Proofs.YtijcdikekgmfoaaGreatDoor
