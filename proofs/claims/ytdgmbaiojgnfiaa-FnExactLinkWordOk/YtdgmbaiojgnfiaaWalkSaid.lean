/- The contract of the program's walk along a row of spans, said. -/
import Derived.Test.YtdgmbaiojgnfiaaWalkData
import Derived.Test.YtdgmbaiojgnfiaaSpanLeaf
import Derived.Test.YtdgmbaiojgnfiaaFollow2
import Derived.Test.YtdgmbaiojgnfiaaLawImpl
namespace Go.Proofs.Ytdgmbaiojgnfiaa
open Go.RowKit Go.Shelf

def WalkSaid : Prop := ∀ (d : Bool) (gf tf : Nat) (q s : Int) (l : List Stp) (g scap base Bs : Nat) (r : List (Int × Int)) (S : List (El l) → Prop) (Sp : List (El l) → Prop) (seqn : List (El l)) (w : World)
    (_hq : 1 ≤ q ∧ q ≤ 50) (_hs0 : 1 ≤ s ∧ s ≤ 50) (_hl : l.length ≤ 1048576) (_hr : GoodRow l.length r)
    (_hown : w.ownsRow base 92 2 (.slice (some ⟨g, 0, none⟩) (l.length + 1) scap) (l.length + 1) (spanCells r))
    (_hseq : ∀ W, Below w.heap.size w W → SeqStopsK Fence.wide 3 Try.prog gf #[.pointer (some ⟨Bs, 0, none⟩)] encA (KeepX w.heap.size g) S Sp l.length W)
    (_heg : ∀ args w, (callFunc gf args).run Try.prog w = .ok (.enter gf args) w) (_hS : ∀ xs, S xs → xs = seqn) (_hSp : ∀ xs, Sp xs → ∃ post, seqn = xs ++ post)
    (_htf : ∀ args w, (callFunc tf args).run Try.prog w = .ok (.enter tf args) w)
    (_hT : ∀ (mo : Int) (e lf : Int × Int) (w : World), (1 ≤ mo ∧ mo ≤ 10000) → (0 ≤ e.1 ∧ e.1 ≤ e.2 ∧ e.2 ≤ 10000) → (0 ≤ lf.1 ∧ lf.1 ≤ lf.2 ∧ lf.2 ≤ 10000) →
      Calls Try.prog tf #[.agg #[.int .i64 e.1, .int .i64 e.2], .agg #[.int .i64 lf.1, .int .i64 lf.2], .agg #[.int .i64 q, .int .i64 mo]] w
        fun x w' => x = .returned (.tuple #[.agg #[.int .i64 (tightB d q mo e lf).1.1, .int .i64 (tightB d q mo e lf).1.2], .agg #[.int .i64 (tightB d q mo e lf).2.1, .int .i64 (tightB d q mo e lf).2.2]]) ∧ Below w.heap.size w w'),
    Calls Try.prog 77 #[.agg #[.int .i64 q, .int .i64 s], .slice (some ⟨g, 0, none⟩) (l.length + 1) scap, .func (.func gf) #[] #[.pointer (some ⟨Bs, 0, none⟩)], .func (.func tf) #[] #[]] w
      fun e w' => e = .returned (.bool (foldW d q s r seqn).2) ∧ w.grownBy w' (some g) ∧ ((foldW d q s r seqn).2 = true → w'.ownsRow base 92 2 (.slice (some ⟨g, 0, none⟩) (l.length + 1) scap) (l.length + 1) (spanCells (foldW d q s r seqn).1))

theorem allE_prefix (l : List Stp) (k : Nat) : ∀ (m : Nat), ∃ post, allE l (k + m) = allE l k ++ post
  | 0 => ⟨[], by simp⟩
  | m + 1 => by
    obtain ⟨post, h⟩ := allE_prefix l k m
    exact ⟨post ++ _, by rw [← List.append_assoc, ← h]; rfl⟩
theorem backE_prefix (l : List Stp) (k : Nat) : ∀ (m : Nat), ∃ post, backE l (k + m) = backE l k ++ post
  | 0 => ⟨[], by simp⟩
  | m + 1 => by
    obtain ⟨post, h⟩ := backE_prefix l k m
    exact ⟨post ++ _, by rw [← List.append_assoc, ← h]; rfl⟩

theorem walkF_any (hW : WalkSaid) (q s : Int) (l : List Stp) (g scap base Bs b0 o cap : Nat) (a : Option Addr) (r : List (Int × Int)) (w : World)
    (hq : 1 ≤ q ∧ q ≤ 50) (hs0 : 1 ≤ s ∧ s ≤ 50) (hl : l.length ≤ 1048576) (hr : GoodRow l.length r)
    (hown : w.ownsRow base 92 2 (.slice (some ⟨g, 0, none⟩) (l.length + 1) scap) (l.length + 1) (spanCells r))
    (hBs : Bs < w.heap.size ∧ Bs ≠ g) (hc : w.cell? ⟨Bs, 0, none⟩ = some (.slice a l.length cap)) (hs : StepsAt w a b0 o l) (hb0 : l ≠ [] → b0 < w.heap.size ∧ b0 ≠ g) :
    Calls Try.prog 77 #[.agg #[.int .i64 q, .int .i64 s], .slice (some ⟨g, 0, none⟩) (l.length + 1) scap, .func (.func 92) #[] #[.pointer (some ⟨Bs, 0, none⟩)], .func (.func 79) #[] #[]] w
      fun e w' => e = .returned (.bool (foldW true q s r (allE l l.length)).2) ∧ w.grownBy w' (some g) ∧ ((foldW true q s r (allE l l.length)).2 = true → w'.ownsRow base 92 2 (.slice (some ⟨g, 0, none⟩) (l.length + 1) scap) (l.length + 1) (spanCells (foldW true q s r (allE l l.length)).1)) :=
  hW true _ _ q s l g scap base Bs r (fun ys => ys = allE l l.length) (fun pre => ∃ k, k ≤ l.length ∧ pre = allE l k) (allE l l.length) w hq hs0 hl hr hown
    (fun W hWb => all_stops 3 (by omega) Bs w.heap.size b0 o cap g a l hl W hBs hWb.size ((hWb.cell (p := ⟨Bs, 0, none⟩) hBs.1).trans hc) (hs.below hWb (fun h => (hb0 h).1)) hb0)
    (enters_of Try.func92 (by kernel_rfl) rfl) (fun _ h => h)
    (fun xs hx => by
      obtain ⟨k, hk, rfl⟩ := hx
      obtain ⟨post, hp⟩ := allE_prefix l k (l.length - k)
      rw [show k + (l.length - k) = l.length by omega] at hp
      exact ⟨post, hp⟩)
    (enters_of Try.func79 (by kernel_rfl) rfl)
    (fun mo e lf w hm he hf => tightL_any _ _ _ _ _ _ w (by omega) (by omega) (by omega) (by omega))

theorem walkB_any (hW : WalkSaid) (q s : Int) (l : List Stp) (g scap base Bs b0 o cap : Nat) (a : Option Addr) (r : List (Int × Int)) (w : World)
    (hq : 1 ≤ q ∧ q ≤ 50) (hs0 : 1 ≤ s ∧ s ≤ 50) (hl : l.length ≤ 1048576) (hr : GoodRow l.length r)
    (hown : w.ownsRow base 92 2 (.slice (some ⟨g, 0, none⟩) (l.length + 1) scap) (l.length + 1) (spanCells r))
    (hBs : Bs < w.heap.size ∧ Bs ≠ g) (hc : w.cell? ⟨Bs, 0, none⟩ = some (.slice a l.length cap)) (hs : StepsAt w a b0 o l) (hb0 : l ≠ [] → b0 < w.heap.size ∧ b0 ≠ g) :
    Calls Try.prog 77 #[.agg #[.int .i64 q, .int .i64 s], .slice (some ⟨g, 0, none⟩) (l.length + 1) scap, .func (.func 94) #[] #[.pointer (some ⟨Bs, 0, none⟩)], .func (.func 81) #[] #[]] w
      fun e w' => e = .returned (.bool (foldW false q s r (backE l l.length)).2) ∧ w.grownBy w' (some g) ∧ ((foldW false q s r (backE l l.length)).2 = true → w'.ownsRow base 92 2 (.slice (some ⟨g, 0, none⟩) (l.length + 1) scap) (l.length + 1) (spanCells (foldW false q s r (backE l l.length)).1)) :=
  hW false _ _ q s l g scap base Bs r (fun ys => ys = backE l l.length) (fun pre => ∃ k, k ≤ l.length ∧ pre = backE l k) (backE l l.length) w hq hs0 hl hr hown
    (fun W hWb => back_stops 3 (by omega) Bs w.heap.size b0 o cap g a l hl W hBs hWb.size ((hWb.cell (p := ⟨Bs, 0, none⟩) hBs.1).trans hc) (hs.below hWb (fun h => (hb0 h).1)) hb0)
    (enters_of Try.func94 (by kernel_rfl) rfl) (fun _ h => h)
    (fun xs hx => by
      obtain ⟨k, hk, rfl⟩ := hx
      obtain ⟨post, hp⟩ := backE_prefix l k (l.length - k)
      rw [show k + (l.length - k) = l.length by omega] at hp
      exact ⟨post, hp⟩)
    (enters_of Try.func81 (by kernel_rfl) rfl)
    (fun mo e lf w hm he hf => tightE_any _ _ _ _ _ _ w (by omega) (by omega) (by omega) (by omega))
end Go.Proofs.Ytdgmbaiojgnfiaa
