/- The program's FlyRest, by its contract. -/
import Derived.Test.YtijcdikekgmfoaaGreatDoorRestImpl
import Derived.Test.YtijcdikekgmfoaaGreatDoorSomeLeft
namespace Go.Proofs.YtijcdikekgmfoaaGreatDoor
open Go.RowKit

set_option maxHeartbeats 2000000 in
set_option maxRecDepth 20000 in
theorem flyRestI_any (hI : SpansSaid) (q s fr b st en nw : Int) (a : Option Addr) (b0 o cap : Nat) (l : List Stp) (p : Addr) (w : World) (hl : l.length ≤ 1048576) (hs : StepsAt w a b0 o l) (hcap : l.length ≤ cap) (hg : Sent w p) :
    Calls Tryz.prog 18 #[.agg #[.int .i64 q, .int .i64 s, .slice a l.length cap, .int .i64 fr, .int .i64 b], .int .i64 st, .int .i64 en, .int .i64 nw] w (Gives (restA q s fr b l st en nw) w) := by
  have P0 := PathAt.new (w.alloc (.cells #[.int .i64 q, .int .i64 s, .slice a l.length cap, .int .i64 fr, .int .i64 b] 27)) 0 0 0 0 (.slice none 0 0)
  rw [World.size_alloc] at P0
  have B0 : Below w.heap.size w ((w.alloc (.cells #[.int .i64 q, .int .i64 s, .slice a l.length cap, .int .i64 fr, .int .i64 b] 27)).alloc (.cells #[.int .i64 0, .int .i64 0, .slice none 0 0, .int .i64 0, .int .i64 0] 27)) := ((Below.refl _ _).alloc (Nat.le_refl _) _).alloc (by simp) _
  have HC : ∀ W : World, StepsAt W a b0 o l → Calls Tryz.prog 64 #[.agg #[.int .i64 q, .int .i64 s, .slice a l.length cap, .int .i64 fr, .int .i64 b], .int .i64 st, .int .i64 en, .int .i64 nw] W (Hands (restA q s fr b l st en nw) W) := fun W hW => restOf_any hI q s fr b st en nw a b0 o cap l W hl hW hcap
  generalize restA q s fr b l st en nw = A at HC ⊢
  go_enter Tryz.func18, Tryz.ntmps18
  go_wp2_with fail
  refine (HC _ ((hs.alloc _).alloc _)).mono ?_
  rintro e w1 ⟨q5, s5, fr5, b5, a5, n5, c5, err5, rfl, hG, hb1⟩
  have P1 := P0.keep hb1 P0.lt
  have B1 := B0.trans (hb1.mono B0.size)
  have hg1 := hg.below B1
  have z1 := hb1.size
  simp only [World.size_alloc] at z1
  clear hb1 P0 B0
  rcases hG with ⟨ho, rfl, rfl, rfl, rfl, rfl, rfl, hr⟩ | ⟨hA, rfl, rfl, rfl, rfl, rfl, rfl, rfl, str, rfl⟩
  · simp only [World.size_alloc] at hr
    go_wp2_with fail
    refine (someLeft_yes _ _ _ _ _ _ _ p _ hg1).mono ?_
    rintro e w2 ⟨rfl, hb2⟩
    have P2 := P1.keep hb2 P1.lt
    have B2 := B1.trans (hb2.mono B1.size)
    have hr2 := owns_below hr hb2
    obtain ⟨⟨f0, f1, f2, f3, f4⟩, ff⟩ := P2.cells
    clear hb2 P1 B1
    clear hr HC
    go_wp2
    refine bodyPost_ret (v := .tuple #[.agg #[.int .i64 A.q, .int .i64 A.s, .slice a5 A.l.length c5, .int .i64 A.fr, .int .i64 A.b], .bool true]) (by simp [results, Tryz.results18, go_sem, *]) rfl ⟨_, by rw [ho], ?_, ?_⟩
    · have hh : ∀ k, (Value.slice a5 A.l.length c5).ownBlock = some k → k ≠ w.heap.size + 1 := fun k e => by have := owns_base hr2 k e; omega
      iterate 5 (refine owns_set ?_ hh _ _)
      exact ⟨hr2.1, hr2.2.imp id fun ⟨g, cap, cur, h1, h2, h3⟩ => ⟨g, cap, cur, h1, by omega, h3⟩⟩
    · iterate 5 (refine Below.setCell ?_ (by show _ ≤ w.heap.size + 1; omega) _)
      exact B2
  · go_wp2_with fail
    refine (someLeft_no _ _ _ _ _ _ _ str p _ hg1).mono ?_
    rintro e w2 ⟨rfl, hb2⟩
    have P2 := P1.keep hb2 P1.lt
    have B2 := B1.trans (hb2.mono B1.size)
    obtain ⟨⟨f0, f1, f2, f3, f4⟩, ff⟩ := P2.cells
    clear hb2 P1 B1
    subst hA
    go_wp2
    refine bodyPost_ret (v := .tuple #[.agg #[.int .i64 0, .int .i64 0, .slice none 0 0, .int .i64 0, .int .i64 0], .bool false]) (by simp [results, Tryz.results18, go_sem, *]) rfl (Gives.none rfl ?_)
    iterate 5 (refine Below.setCell ?_ (by show _ ≤ w.heap.size + 1; omega) _)
    exact B2
end Go.Proofs.YtijcdikekgmfoaaGreatDoor
