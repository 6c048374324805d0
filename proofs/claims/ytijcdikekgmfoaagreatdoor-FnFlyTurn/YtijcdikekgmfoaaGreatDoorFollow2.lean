/- The check that ranges over steps two by two, by its contract. -/
import Derived.Test.YtijcdikekgmfoaaGreatDoorFollow
namespace Go.Proofs.YtijcdikekgmfoaaGreatDoor
open Go.RowKit Go.Shelf
attribute [local go_sem] Oper.semAt_some

set_option maxHeartbeats 1000000 in
theorem pairs_in (n : Nat) (a : Option Addr) (len cap : Nat) (w : World) :
    CallsIn Fence.wide n Tryz.prog 101 #[.slice a len cap] w fun e w' => e = .returned (.func (.func 118) #[] #[.pointer (some ⟨w.heap.size, 0, none⟩)]) ∧ w' = w.alloc (.cells #[.slice a len cap] 25) := by
  refine callsIn_of_wp Tryz.func101 rfl trivial ?_ rfl
  simp only [Tryz.ntmps101, List.size_toArray, List.length_cons, List.length_nil, Nat.reduceAdd, Nat.reduceSub, Array.replicate_succ, Array.replicate_zero, List.push_toArray, List.append_toArray, List.nil_append, List.cons_append]
  gi_wp2
  go_ret
  exact ⟨rfl, rfl⟩

theorem pairs_stops (n : Nat) (hn : 1 ≤ n) (Bs n₀ b0 o cap : Nat) (a : Option Addr) (l : List Stp) (hl : l.length ≤ 1048576) (w : World) (hBs : Bs < n₀) (hn₀ : n₀ ≤ w.heap.size)
    (hc : w.cell? ⟨Bs, 0, none⟩ = some (.slice a l.length cap)) (hs : StepsAt w a b0 o l) (hb0 : l ≠ [] → b0 < n₀) :
    SeqStopsK Fence.wide n Tryz.prog 118 #[.pointer (some ⟨Bs, 0, none⟩)] encP (Below n₀) (fun ys => ys = pairsTo l (l.length - 1)) (fun pre => ∃ k, k ≤ l.length - 1 ∧ pre = pairsTo l k) l.length w := fun lp J Jx W hW hJ _ hY h0 =>
  pairs1_in n hn lp Bs n₀ b0 o cap a l hl hBs hb0 J Jx (fun s A h => hJ s A A.drew none h ⟨rfl, rfl, rfl, Nat.le_refl _, fun _ _ _ => rfl⟩ (fun r e => by cases e)) hY W
    ((hW.cell (p := ⟨Bs, 0, none⟩) (Nat.lt_of_lt_of_le hBs hn₀)).trans hc) (hs.below hW (fun h => Nat.lt_of_lt_of_le (hb0 h) hn₀)) h0

/-- A block that holds one step. -/
def BoxS (W : World) (B : Nat) (s : Stp) : Prop := W.heap[B]? = some (.cells #[.int .i64 s.x, .int .i64 s.y, .int .i64 s.lo, .int .i64 s.hi, .int .i64 s.fr, .int .i64 s.by_, .bool s.ho] 44 (0, 0))
theorem BoxS.lt {W : World} {B : Nat} {s : Stp} (h : BoxS W B s) : B < W.heap.size := (Array.getElem?_eq_some_iff.1 h).1
theorem BoxS.kept {W W' : World} {row : Option Nat} {B : Nat} {s : Stp} (h : BoxS W B s) (hg : W.grownBy W' row) (hne : some B ≠ row) : BoxS W' B s := (hg.block B h.lt hne).trans h
theorem BoxS.alloc {W : World} {B : Nat} {s : Stp} (h : BoxS W B s) (ob : Obj) : BoxS (W.alloc ob) B s := (Below.heap_alloc W ob B h.lt).trans h
theorem BoxS.new (W : World) (s : Stp) : BoxS (W.alloc (.cells #[.int .i64 s.x, .int .i64 s.y, .int .i64 s.lo, .int .i64 s.hi, .int .i64 s.fr, .int .i64 s.by_, .bool s.ho] 44)) W.heap.size s := World.alloc_heap_new W _
theorem BoxS.own {X Y : World} {row : Option Nat} {B : Nat} {s : Stp} (h : BoxS X B s) (hg : X.grownBy Y row) (hr : ∀ r, row = some r → ∃ ob : Obj, X.heap[r]? = some ob ∧ ob.isCells = false) : BoxS Y B s :=
  h.kept hg (fun e' => by obtain ⟨ob, ho, hc⟩ := hr B e'.symm; rw [show X.heap[B]? = _ from h] at ho; cases ho; cases hc)
theorem BoxS.seven {W : World} {B : Nat} {s : Stp} (h : BoxS W B s) :
    W.cell? ⟨B, 0, none⟩ = some (.int .i64 s.x) ∧ W.cell? ⟨B, 1, none⟩ = some (.int .i64 s.y) ∧ W.cell? ⟨B, 2, none⟩ = some (.int .i64 s.lo) ∧ W.cell? ⟨B, 3, none⟩ = some (.int .i64 s.hi) ∧
    W.cell? ⟨B, 4, none⟩ = some (.int .i64 s.fr) ∧ W.cell? ⟨B, 5, none⟩ = some (.int .i64 s.by_) ∧ W.cell? ⟨B, 6, none⟩ = some (.bool s.ho) := by
  refine ⟨?_, ?_, ?_, ?_, ?_, ?_, ?_⟩ <;> simp [World.cell?, show W.heap[B]? = _ from h]

theorem keeps_below {W W' : World} (h : Below W.heap.size W W') : KeepsOthers W W' :=
  ⟨h.size, fun k _ hk _ => (h.block k (Array.getElem?_eq_some_iff.1 hk).1).trans hk⟩
theorem boxed_below {W W' : World} {B : Nat} {t : TypeId} {v : Value} (h : Boxed W B t v) (hb : Below W.heap.size W W') : Boxed W' B t v := (hb.block B h.lt).trans h

/-- A pair of which the second follows the first, as the program asks it. -/
def folP (x : Stp × Stp) : Bool := folB x.2.x x.2.y x.2.lo x.2.hi x.1.x x.1.y x.1.lo x.1.hi
theorem folTo_pairs (l : List Stp) (k : Nat) : folTo l k = (pairsTo l k).all folP := by
  simp only [folTo, pairsTo, List.all_map]
  rfl

set_option maxRecDepth 100000 in
set_option maxHeartbeats 4000000 in
theorem follow_any : FollowSaid := by
  intro q s fr b a b0 o cap l w hl hs
  refine (callsIn_wide (n := 4)).1 ?_
  refine callsIn_of_wp_marks Tryz.func52 rfl trivial ?_ rfl
  simp only [Tryz.ntmps52, List.size_toArray, List.length_cons, List.length_nil, Nat.reduceAdd, Nat.reduceSub, Array.replicate_succ, Array.replicate_zero, List.push_toArray, List.append_toArray, List.nil_append, List.cons_append]
  gi_wp2_with (refine ⟨trivial, ?_⟩; gi_at_call 101; refine (pairs_in _ _ _ _ _).mono ?_; rintro e w' ⟨rfl, rfl⟩)
  have bR := (Boxed.new (w.alloc (.cells #[.int .i64 q, .int .i64 s, .slice a l.length cap, .int .i64 fr, .int .i64 b] 27)) 4 (.bool false)).alloc (.cells #[.slice a l.length cap] 25)
  have bA := Boxed.new ((w.alloc (.cells #[.int .i64 q, .int .i64 s, .slice a l.length cap, .int .i64 fr, .int .i64 b] 27)).alloc (.cells #[.bool false] 4)) 25 (.slice a l.length cap)
  simp only [World.size_alloc] at bR bA
  have hB0 : Below w.heap.size w (((w.alloc (.cells #[.int .i64 q, .int .i64 s, .slice a l.length cap, .int .i64 fr, .int .i64 b] 27)).alloc (.cells #[.bool false] 4)).alloc (.cells #[.slice a l.length cap] 25)) := (((Below.refl _ w).alloc (Nat.le_refl _) _).alloc (by simp) _).alloc (by simp; omega) _
  have hsz : (((w.alloc (.cells #[.int .i64 q, .int .i64 s, .slice a l.length cap, .int .i64 fr, .int .i64 b] 27)).alloc (.cells #[.bool false] 4)).alloc (.cells #[.slice a l.length cap] 25)).heap.size = w.heap.size + 3 := by simp
  obtain ⟨W0, hW0⟩ : ∃ W0, (((w.alloc (.cells #[.int .i64 q, .int .i64 s, .slice a l.length cap, .int .i64 fr, .int .i64 b] 27)).alloc (.cells #[.bool false] 4)).alloc (.cells #[.slice a l.length cap] 25)) = W0 := ⟨_, rfl⟩
  rw [hW0] at bR bA hB0 hsz ⊢
  clear hW0
  refine wpIn_rangeFunc_ownH rfl (by omega) (gf := 118) (lb := #[.pointer (some ⟨w.heap.size + 1 + 1, 0, none⟩)]) rfl trivial (enters_of Tryz.func118 (by kernel_rfl) rfl)
    (pairs_stops _ (by omega) (w.heap.size + 1 + 1) W0.heap.size b0 o cap a l hl W0 (by omega) (Nat.le_refl _) bA.cell (hs.below hB0 hs.lt) (fun h => by have := hs.lt h; omega)) belowK_t (belowK_b (Nat.le_refl _)) (Below.refl _ _) (fun _ => rfl)
    (fun pre W => ((pre.all folP = true ∧ Boxed W (w.heap.size + 1) 4 (.bool false)) ∧ Boxed W (w.heap.size + 1 + 1) 25 (.slice a l.length cap)) ∧ Below w.heap.size w W)
    (fun c pre W => ((c = .ret ∧ pre.all folP = false) ∧ Boxed W (w.heap.size + 1) 4 (.bool false)) ∧ Below w.heap.size w W)
    (OwnFrom.and (OwnFrom.and (OwnFrom.and (ownFrom_pure _ _) (Own.from (boxed_own _ _ _) _)) (Own.from (boxed_own _ _ _) _)) (ownFrom_below (Nat.le_refl _) (by omega)))
    (fun c => OwnFrom.and (OwnFrom.and (ownFrom_pure _ _) (Own.from (boxed_own _ _ _) _)) (ownFrom_below (Nat.le_refl _) (by omega)))
    ⟨⟨⟨rfl, bR⟩, bA⟩, hB0⟩
    (fun x a' W => ∃ Bx By, w.heap.size + 1 < Bx ∧ w.heap.size + 1 < By ∧ BoxS W Bx x.1 ∧ BoxS W By x.2 ∧ a' = { tmps := #[.agg #[.int .i64 q, .int .i64 s, .slice a l.length cap, .int .i64 fr, .int .i64 b], .pointer (some ⟨w.heap.size, 0, none⟩), .pointer (some ⟨w.heap.size + 1, 0, none⟩), .pointer (some ⟨Bx, 0, none⟩), .pointer (some ⟨By, 0, none⟩), .pointer (some ⟨w.heap.size, 2, none⟩), .slice a l.length cap, .func (.func 118) #[] #[.pointer (some ⟨w.heap.size + 1 + 1, 0, none⟩)], x.1.val, x.2.val, undef, undef, undef, undef], defers := [] })
    (fun x a' _ X Y row hs' hg hr => by obtain ⟨Bx, By, h1, h2, h3, h4, h5⟩ := hs'; exact ⟨Bx, By, h1, h2, h3.own hg (fun r e => (hr r e).2), h4.own hg (fun r e => (hr r e).2), h5⟩)
    ?assign ?body ?done ?stop
  case assign =>
    rintro lp pre x W K ⟨⟨⟨hall, bR1⟩, bA1⟩, hB1⟩ hK
    have hW := bA1.lt
    gi_wp2
    exact hK _ _ (((KeepsOthers.alloc _ _).trans (KeepsOthers.alloc _ _)).from _) (((Below.refl _ W).alloc (by omega) _).alloc (by simp; omega) _) ⟨⟨⟨hall, (bR1.alloc _).alloc _⟩, (bA1.alloc _).alloc _⟩, (hB1.alloc hB1.size _).alloc (by simp; omega) _⟩
      ⟨W.heap.size, W.heap.size + 1, by omega, by omega, (BoxS.new W x.1).alloc _, by have := BoxS.new (W.alloc (.cells #[.int .i64 x.1.x, .int .i64 x.1.y, .int .i64 x.1.lo, .int .i64 x.1.hi, .int .i64 x.1.fr, .int .i64 x.1.by_, .bool x.1.ho] 44)) x.2; simpa using this, rfl⟩
  case body =>
    rintro lp pre x a' W _ _ ⟨⟨⟨hall, bR1⟩, bA1⟩, hB1⟩ ⟨Bx, By, hBx, hBy, bX, bY, rfl⟩ hlt
    obtain ⟨c0, c1, c2, c3, c4, c5, c6⟩ := bX.seven
    obtain ⟨d0, d1, d2, d3, d4, d5, d6⟩ := bY.seven
    have hW := bA1.lt
    have HA : Hid (pre.all folP = true) := hall
    clear hall
    cases hf : folB x.2.x x.2.y x.2.lo x.2.hi x.1.x x.1.y x.1.lo x.1.hi with
    | false =>
      have HE : Hid ((pre ++ [x]).all folP = false) := by show _ = _; rw [List.all_append, HA.out]; simp [folP, hf]
      gi_wp2_with (refine ⟨trivial, ?_⟩; gi_at_call 102; refine (CallsIn.inRound lp (callsIn_wide.2 (follows_any _ _ _ _ _ _ _ _ _ _ _ _ _ _ _))).mono ?_; rintro e w2 ⟨rfl, hb2⟩; have rc := (boxed_below bR1 hb2).cell; have rf := (boxed_below bR1 hb2).frozen)
      exact ⟨((keeps_below hb2).trans (KeepsOthers.setCell _ _ _)).from _, ⟨⟨rfl, HE.out⟩, (boxed_below bR1 hb2).set _⟩, (hB1.trans (hb2.mono hB1.size)).setCell (p := ⟨w.heap.size + 1, 0, none⟩) (by simp) _⟩
    | true =>
      have HE : Hid ((pre ++ [x]).all folP = true) := by show _ = _; rw [List.all_append, HA.out]; simp [folP, hf]
      gi_wp2_with (refine ⟨trivial, ?_⟩; gi_at_call 102; refine (CallsIn.inRound lp (callsIn_wide.2 (follows_any _ _ _ _ _ _ _ _ _ _ _ _ _ _ _))).mono ?_; rintro e w2 ⟨rfl, hb2⟩)
      exact ⟨(keeps_below hb2).from _, hb2.mono (by omega), ⟨⟨HE.out, boxed_below bR1 hb2⟩, boxed_below bA1 hb2⟩, hB1.trans (hb2.mono hB1.size)⟩
  case done =>
    rintro D zs W hD rfl ⟨⟨⟨hall, bR1⟩, bA1⟩, hB1⟩ hK
    have rc := bR1.cell
    have rf := bR1.frozen
    have HE : Hid (folTo l (l.length - 1) = true) := by show _ = _; rw [folTo_pairs]; exact hall
    clear hall
    gi_wp2
    have hK' := (KeepsOthers.setCell W ⟨w.heap.size + 1, 0, none⟩ (.bool true)).same D _ hK rfl
    refine ⟨by simp, .inl ⟨_, _, rfl, run_takeDeferred hK', ?_⟩⟩
    have hc5 := cell_kept (World.cell?_setCell_same' W ⟨w.heap.size + 1, 0, none⟩ (.bool true) (by rw [rc]; rfl)) (grownBy_putObj' _ D (.deferred none)) (fun r e => by cases e; exact ⟨_, hK', rfl⟩)
    refine ⟨.bool true, ?_, by rw [HE.out], (hB1.setCell (p := ⟨w.heap.size + 1, 0, none⟩) (by simp) _).trans (belowK_b (w := w) (Nat.le_refl _) _ D _ _ (by omega) hK' rfl rfl)⟩
    simp [results, Tryz.f52, go_sem, hc5]
  case stop =>
    rintro D c pre W hD ⟨k, hk, rfl⟩ ⟨⟨⟨rfl, hbad⟩, bR1⟩, hB1⟩ hK
    have HE : Hid (folTo l (l.length - 1) = false) := by
      show _ = _
      rw [← folTo_pairs] at hbad
      cases e : folTo l (l.length - 1) with
      | false => rfl
      | true =>
        exfalso
        simp only [folTo, List.all_eq_true, List.mem_range] at e
        have : folTo l k = true := by simp only [folTo, List.all_eq_true, List.mem_range]; exact fun i hi => e i (by omega)
        rw [this] at hbad
        cases hbad
    clear hbad
    gi_wp2
    refine ⟨by simp, .inl ⟨_, _, rfl, run_takeDeferred hK, ?_⟩⟩
    have hc5 := cell_kept bR1.cell (grownBy_putObj' _ D (.deferred none)) (fun r e => by cases e; exact ⟨_, hK, rfl⟩)
    refine ⟨.bool false, ?_, by rw [HE.out], hB1.trans (belowK_b (w := w) (Nat.le_refl _) W D _ _ (by omega) hK rfl rfl)⟩
    simp [results, Tryz.f52, go_sem, hc5]
end Go.Proofs.YtijcdikekgmfoaaGreatDoor
