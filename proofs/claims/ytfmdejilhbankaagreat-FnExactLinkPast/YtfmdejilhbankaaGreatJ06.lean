/- Joined texts: LkFlyB, LkRowPut, LkDelF, LkDelG, LkCopyBI, LkHrW, LkPastI, LkPastW. -/
import Derived.Deep.RegionLaw
import Derived.Lib.SliceRun
import Derived.Deep.DeepCutAuto
import Derived.Maps.AppendAt
import Derived.ProofKit
import Derived.Test.YtfmdejilhbankaaGreatJ05
import Derived.Test.YtfmdejilhbankaaGreatJ04
import Derived.Test.YtfmdejilhbankaaGreatLkOwn2
import Derived.Test.YtfmdejilhbankaaGreatLkCopyB0
import Derived.Test.YtfmdejilhbankaaGreatJ01
import Derived.Test.YtfmdejilhbankaaGreatLkLawB
namespace Go.Proofs.YtfmdejilhbankaaGreat
open Go.RowKit Go.Shelf
attribute [local go_sem] Oper.semAt_some

set_option maxHeartbeats 1000000 in
theorem hs_in (n : Nat) (a : Option Addr) (N ca : Nat) (w : World) :
    CallsIn Fence.wide n Tryz.prog 80 #[.slice a N ca, .func (.func 81) #[] #[]] w fun e w' => e = .returned (.func (.func 102) #[] #[.pointer (some ⟨w.heap.size, 0, none⟩), .pointer (some ⟨w.heap.size + 1, 0, none⟩)]) ∧ w' = (w.alloc (.cells #[.slice a N ca] 27)).alloc (.cells #[.func (.func 81) #[] #[]] 121) := by
  refine callsIn_of_wp Tryz.func80 rfl trivial ?_ rfl
  simp only [Tryz.ntmps80, List.size_toArray, List.length_cons, List.length_nil, Nat.reduceAdd, Nat.reduceSub, Array.replicate_succ, Array.replicate_zero, List.push_toArray, List.append_toArray, List.nil_append, List.cons_append]
  gi_wp2
  go_ret
  exact ⟨rfl, rfl⟩

theorem hs_stops (n : Nat) (hn : 1 ≤ n) (Ba Bb n₀ b o ca : Nat) (a : Option Addr) (ts : List Hd) (hl : ts.length ≤ 1048576) (w : World) (hnW : n₀ ≤ w.heap.size) (ha : w.heap[Ba]? = some (.cells #[.slice a ts.length ca] 27 (0, 0))) (hb : w.heap[Bb]? = some (.cells #[.func (.func 81) #[] #[]] 121 (0, 0)))
    (hs : HdsAt w a b o ts) (hbn : ts ≠ [] → b < n₀) :
    SeqStopsK Fence.wide n Tryz.prog 102 #[.pointer (some ⟨Ba, 0, none⟩), .pointer (some ⟨Bb, 0, none⟩)] (encN (ts := ts)) (KeepS n₀ b) (fun ys => ys.map vN = mayL ts) (fun pre => ∃ post, mayL ts = pre.map vN ++ post) (2 * ts.length) w := fun lp J Jx W hW hJ _ hY h0 =>
  hs1_in n hn lp Ba Bb n₀ b o ca a ts hl J Jx (fun s A B h hg => hJ s A B none h hg (fun r e => by cases e)) hY W (Nat.le_trans hnW hW.size) ((hW.block Ba (lt_of_block ha)).trans ha) ((hW.block Bb (lt_of_block hb)).trans hb) (hs.below hW) hbn h0

theorem ownFrom_size {β : Type} (B N : Nat) : OwnFrom B (fun (_ : β) (W : World) => N ≤ W.heap.size) := fun _ _ _ _ h hg _ => Nat.le_trans h hg.size

/-- None of these flies any more. -/
def noneFly (now : Int) (l : List NP) : Bool := l.all fun x => !(liveK x.2.key now)
theorem noneFly_one (now : Int) (t : Hd) : noneFly now (mayL [t]) = !(goesH now t) := by
  simp [noneFly, mayL, bothOf, goesH, goesK, Hd.key, Bool.not_or]
theorem noneFly_snoc (now : Int) (l : List NP) (x : NP) : noneFly now (l ++ [x]) = (noneFly now l && !(liveK x.2.key now)) := by simp [noneFly]
theorem noneFly_pre {now : Int} {l m : List NP} (h : noneFly now l = false) : noneFly now (l ++ m) = false := by
  unfold noneFly at h ⊢
  rw [List.all_append, h, Bool.false_and]
theorem fly_size {hd : Hd} {x : NP} (h : x = (hd.nm, hd.p) ∨ x = (hd.nm, hd.x)) (hp : hd.p.l.length ≤ 1048576) (hx : hd.x.l.length ≤ 1048576) : x.2.l.length ≤ 1048576 := by rcases h with rfl | rfl <;> assumption
theorem fly_at {hd : Hd} {x : NP} {w : World} (h : x = (hd.nm, hd.p) ∨ x = (hd.nm, hd.x)) (ht : HdAt w hd) : PtAt w x.2 := by
  rcases h with rfl | rfl
  · exact ht.p
  · exact ht.x

set_option maxRecDepth 100000 in
set_option maxHeartbeats 8000000 in
theorem mayFly_any (hI : SpansSaid) (t : Hd) (now : Int) (w : World) (hnow : -9223372036854775808 ≤ now) (hpl : t.p.l.length ≤ 1048576) (hxl : t.x.l.length ≤ 1048576) (ht : HdAt w t) :
    Calls Tryz.prog 71 #[t.val, .int .i64 now] w fun e w' => e = .returned (.bool (goesH now t)) ∧ Below w.heap.size w w' := by
  refine (callsIn_wide (n := 4)).1 ?_
  refine callsIn_of_wp_marks Tryz.func71 rfl trivial ?_ rfl
  simp only [Tryz.ntmps71, List.size_toArray, List.length_cons, List.length_nil, Nat.reduceAdd, Nat.reduceSub, Array.replicate_succ, Array.replicate_zero, List.push_toArray, List.append_toArray, List.nil_append, List.cons_append]
  have HF : Hid (now < 10000 ∨ 10000 ≤ now) := by show _ ∨ _; omega
  rcases Int.lt_or_le 10000 now with hm | hm
  · gi_wp2_with (refine ⟨trivial, ?_⟩; gi_at_call 80; refine (hs_in _ _ _ _ _).mono ?_; rintro e w' ⟨rfl, rfl⟩)
    obtain ⟨f, hf⟩ : ∃ f : Int, f = 10001 := ⟨_, rfl⟩
    rw [← hf]
    have HFE : Hid (f = (if now < 10000 then now else 10000) + 1) := by show _ = _; rw [hf, if_neg (by omega)]; decide
    clear hf
    obtain ⟨W0, hW0⟩ : ∃ W0, ((((((w.alloc (.cells #[.string t.nm, .int .i64 t.n, .int .i64 t.p.q, .int .i64 t.p.s, .slice t.p.a t.p.l.length t.p.cap, .int .i64 t.p.fr, .int .i64 t.p.b, .int .i64 t.sn, .int .i64 t.x.q, .int .i64 t.x.s, .slice t.x.a t.x.l.length t.x.cap, .int .i64 t.x.fr, .int .i64 t.x.b] 52)).alloc (.cells #[.bool false] 4)).alloc (.cells #[.int .i64 f] 3)).alloc (.cells #[.string t.nm, .int .i64 t.n, .int .i64 t.p.q, .int .i64 t.p.s, .slice t.p.a t.p.l.length t.p.cap, .int .i64 t.p.fr, .int .i64 t.p.b, .int .i64 t.sn, .int .i64 t.x.q, .int .i64 t.x.s, .slice t.x.a t.x.l.length t.x.cap, .int .i64 t.x.fr, .int .i64 t.x.b] 52)).alloc (.cells #[.slice (some ⟨w.heap.size + 1 + 1 + 1, 0, none⟩) 1 1] 27)).alloc (.cells #[.func (.func 81) #[] #[]] 121)) = W0 := ⟨_, rfl⟩
    have hB0 : Below w.heap.size w W0 := by
      rw [← hW0]
      exact (((bel3 _ _ _).alloc (by simp; omega) _).alloc (by simp; omega) _).alloc (by simp; omega) _
    have hsz : W0.heap.size = w.heap.size + 6 := by rw [← hW0]; simp
    have bR : Boxed W0 (w.heap.size + 1) 4 (.bool false) := by
      rw [← hW0]
      have h := (((Boxed.new (w.alloc (.cells #[.string t.nm, .int .i64 t.n, .int .i64 t.p.q, .int .i64 t.p.s, .slice t.p.a t.p.l.length t.p.cap, .int .i64 t.p.fr, .int .i64 t.p.b, .int .i64 t.sn, .int .i64 t.x.q, .int .i64 t.x.s, .slice t.x.a t.x.l.length t.x.cap, .int .i64 t.x.fr, .int .i64 t.x.b] 52)) 4 (.bool false)).alloc (.cells #[.int .i64 f] 3)).alloc (.cells #[.string t.nm, .int .i64 t.n, .int .i64 t.p.q, .int .i64 t.p.s, .slice t.p.a t.p.l.length t.p.cap, .int .i64 t.p.fr, .int .i64 t.p.b, .int .i64 t.sn, .int .i64 t.x.q, .int .i64 t.x.s, .slice t.x.a t.x.l.length t.x.cap, .int .i64 t.x.fr, .int .i64 t.x.b] 52)).alloc (.cells #[.slice (some ⟨w.heap.size + 1 + 1 + 1, 0, none⟩) 1 1] 27)
      simp only [World.size_alloc] at h
      exact h.alloc _
    have bF : Boxed W0 (w.heap.size + 1 + 1) 3 (.int .i64 f) := by
      rw [← hW0]
      have h := ((Boxed.new ((w.alloc (.cells #[.string t.nm, .int .i64 t.n, .int .i64 t.p.q, .int .i64 t.p.s, .slice t.p.a t.p.l.length t.p.cap, .int .i64 t.p.fr, .int .i64 t.p.b, .int .i64 t.sn, .int .i64 t.x.q, .int .i64 t.x.s, .slice t.x.a t.x.l.length t.x.cap, .int .i64 t.x.fr, .int .i64 t.x.b] 52)).alloc (.cells #[.bool false] 4)) 3 (.int .i64 f)).alloc (.cells #[.string t.nm, .int .i64 t.n, .int .i64 t.p.q, .int .i64 t.p.s, .slice t.p.a t.p.l.length t.p.cap, .int .i64 t.p.fr, .int .i64 t.p.b, .int .i64 t.sn, .int .i64 t.x.q, .int .i64 t.x.s, .slice t.x.a t.x.l.length t.x.cap, .int .i64 t.x.fr, .int .i64 t.x.b] 52)).alloc (.cells #[.slice (some ⟨w.heap.size + 1 + 1 + 1, 0, none⟩) 1 1] 27)
      simp only [World.size_alloc] at h
      exact h.alloc _
    have bH : W0.heap[w.heap.size + 1 + 1 + 1]? = some (.cells #[.string t.nm, .int .i64 t.n, .int .i64 t.p.q, .int .i64 t.p.s, .slice t.p.a t.p.l.length t.p.cap, .int .i64 t.p.fr, .int .i64 t.p.b, .int .i64 t.sn, .int .i64 t.x.q, .int .i64 t.x.s, .slice t.x.a t.x.l.length t.x.cap, .int .i64 t.x.fr, .int .i64 t.x.b] 52 (0, 0)) := by
      rw [← hW0]
      have h := heap_alloc_new (((w.alloc (.cells #[.string t.nm, .int .i64 t.n, .int .i64 t.p.q, .int .i64 t.p.s, .slice t.p.a t.p.l.length t.p.cap, .int .i64 t.p.fr, .int .i64 t.p.b, .int .i64 t.sn, .int .i64 t.x.q, .int .i64 t.x.s, .slice t.x.a t.x.l.length t.x.cap, .int .i64 t.x.fr, .int .i64 t.x.b] 52)).alloc (.cells #[.bool false] 4)).alloc (.cells #[.int .i64 f] 3)) (.cells #[.string t.nm, .int .i64 t.n, .int .i64 t.p.q, .int .i64 t.p.s, .slice t.p.a t.p.l.length t.p.cap, .int .i64 t.p.fr, .int .i64 t.p.b, .int .i64 t.sn, .int .i64 t.x.q, .int .i64 t.x.s, .slice t.x.a t.x.l.length t.x.cap, .int .i64 t.x.fr, .int .i64 t.x.b] 52)
      simp only [World.size_alloc] at h
      exact ((bel2 _ _).block _ (lt_of_block h)).trans h
    have bA : Boxed W0 (w.heap.size + 1 + 1 + 1 + 1) 27 (.slice (some ⟨w.heap.size + 1 + 1 + 1, 0, none⟩) 1 1) := by
      rw [← hW0]
      have h := Boxed.new ((((w.alloc (.cells #[.string t.nm, .int .i64 t.n, .int .i64 t.p.q, .int .i64 t.p.s, .slice t.p.a t.p.l.length t.p.cap, .int .i64 t.p.fr, .int .i64 t.p.b, .int .i64 t.sn, .int .i64 t.x.q, .int .i64 t.x.s, .slice t.x.a t.x.l.length t.x.cap, .int .i64 t.x.fr, .int .i64 t.x.b] 52)).alloc (.cells #[.bool false] 4)).alloc (.cells #[.int .i64 f] 3)).alloc (.cells #[.string t.nm, .int .i64 t.n, .int .i64 t.p.q, .int .i64 t.p.s, .slice t.p.a t.p.l.length t.p.cap, .int .i64 t.p.fr, .int .i64 t.p.b, .int .i64 t.sn, .int .i64 t.x.q, .int .i64 t.x.s, .slice t.x.a t.x.l.length t.x.cap, .int .i64 t.x.fr, .int .i64 t.x.b] 52)) 27 (.slice (some ⟨w.heap.size + 1 + 1 + 1, 0, none⟩) 1 1)
      simp only [World.size_alloc] at h
      exact h.alloc _
    have bB : Boxed W0 (w.heap.size + 1 + 1 + 1 + 1 + 1) 121 (.func (.func 81) #[] #[]) := by
      rw [← hW0]
      have h := Boxed.new (((((w.alloc (.cells #[.string t.nm, .int .i64 t.n, .int .i64 t.p.q, .int .i64 t.p.s, .slice t.p.a t.p.l.length t.p.cap, .int .i64 t.p.fr, .int .i64 t.p.b, .int .i64 t.sn, .int .i64 t.x.q, .int .i64 t.x.s, .slice t.x.a t.x.l.length t.x.cap, .int .i64 t.x.fr, .int .i64 t.x.b] 52)).alloc (.cells #[.bool false] 4)).alloc (.cells #[.int .i64 f] 3)).alloc (.cells #[.string t.nm, .int .i64 t.n, .int .i64 t.p.q, .int .i64 t.p.s, .slice t.p.a t.p.l.length t.p.cap, .int .i64 t.p.fr, .int .i64 t.p.b, .int .i64 t.sn, .int .i64 t.x.q, .int .i64 t.x.s, .slice t.x.a t.x.l.length t.x.cap, .int .i64 t.x.fr, .int .i64 t.x.b] 52)).alloc (.cells #[.slice (some ⟨w.heap.size + 1 + 1 + 1, 0, none⟩) 1 1] 27)) 121 (.func (.func 81) #[] #[])
      simp only [World.size_alloc] at h
      exact h
    have hRow : HdsAt W0 (some ⟨w.heap.size + 1 + 1 + 1, 0, none⟩) (w.heap.size + 1 + 1 + 1) 0 [t] := by
      refine ⟨fun _ => rfl, fun _ => lt_of_block bH, fun i u hi => ?_, fun u hu => ?_⟩
      · obtain rfl : i = 0 := by
          rcases i with _ | i
          · rfl
          · simp at hi
        simp at hi
        subst hi
        simpa using cl_block bH
      · simp at hu
        subst hu
        exact ht.below hB0
    rw [hW0]
    clear hW0
    refine wpIn_rangeFunc_ownH rfl (by omega) (gf := 102) (lb := #[.pointer (some ⟨w.heap.size + 1 + 1 + 1 + 1, 0, none⟩), .pointer (some ⟨w.heap.size + 1 + 1 + 1 + 1 + 1, 0, none⟩)]) rfl trivial (enters_of Tryz.func102 (by kernel_rfl) rfl)
      (hs_stops _ (by omega) (w.heap.size + 1 + 1 + 1 + 1) (w.heap.size + 1 + 1 + 1 + 1 + 1) W0.heap.size (w.heap.size + 1 + 1 + 1) 0 1 (some ⟨w.heap.size + 1 + 1 + 1, 0, none⟩) [t] (by simp) W0 (Nat.le_refl _) bA bB hRow (fun _ => by omega)) KeepS.trans (KeepS.putObj (Nat.le_refl _)) (Below.refl _ _) (fun _ => rfl)
      (fun pre W => (((noneFly now (pre.map vN) = true ∧ Boxed W (w.heap.size + 1) 4 (.bool false)) ∧ Boxed W (w.heap.size + 1 + 1) 3 (.int .i64 f)) ∧ Below w.heap.size w W) ∧ W0.heap.size ≤ W.heap.size)
      (fun c pre W => ((c = .ret ∧ noneFly now (pre.map vN) = false) ∧ Boxed W (w.heap.size + 1) 4 (.bool true)) ∧ Below w.heap.size w W)
      (OwnFrom.and (OwnFrom.and (OwnFrom.and (OwnFrom.and (ownFrom_pure _ _) (Own.from (boxed_own _ _ _) _)) (Own.from (boxed_own _ _ _) _)) (ownFrom_below (Nat.le_refl _) (by omega))) (ownFrom_size _ _))
      (fun c => OwnFrom.and (OwnFrom.and (ownFrom_pure _ _) (Own.from (boxed_own _ _ _) _)) (ownFrom_below (Nat.le_refl _) (by omega)))
      ⟨⟨⟨⟨rfl, bR⟩, bF⟩, hB0⟩, Nat.le_refl _⟩
      (fun x a' W => ∃ Bp, W.heap[Bp]? = some (.cells #[.int .i64 x.1.2.q, .int .i64 x.1.2.s, .slice x.1.2.a x.1.2.l.length x.1.2.cap, .int .i64 x.1.2.fr, .int .i64 x.1.2.b] 43 (0, 0)) ∧ a' = { tmps := #[t.val, .int .i64 now, .pointer (some ⟨w.heap.size, 0, none⟩), undef, .pointer (some ⟨w.heap.size + 1, 0, none⟩), .pointer (some ⟨w.heap.size + 1 + 1, 0, none⟩), undef, .pointer (some ⟨Bp, 0, none⟩), .int .i64 now, .int .i64 10000, .int .i64 f, t.val, .slice (some ⟨w.heap.size + 1 + 1 + 1, 0, none⟩) 1 1, .func (.func 102) #[] #[.pointer (some ⟨w.heap.size + 1 + 1 + 1 + 1, 0, none⟩), .pointer (some ⟨w.heap.size + 1 + 1 + 1 + 1 + 1, 0, none⟩)], .string x.1.1, .agg #[.int .i64 x.1.2.q, .int .i64 x.1.2.s, .slice x.1.2.a x.1.2.l.length x.1.2.cap, .int .i64 x.1.2.fr, .int .i64 x.1.2.b], undef, undef, undef, undef, undef, undef], defers := [] })
      (fun x a' _ X Y row hs' hg hr => by obtain ⟨Bp, h1, h2⟩ := hs'; exact ⟨Bp, (hg.block Bp (lt_of_block h1) (fun e => by obtain ⟨_, o, ho, hc⟩ := hr Bp e.symm; rw [h1] at ho; cases ho; cases hc)).trans h1, h2⟩)
      ?assign ?body ?done ?stop
    case assign =>
      rintro lp pre x W K ⟨⟨⟨⟨hall, bR1⟩, b102⟩, hB1⟩, hW1⟩ hK
      gi_wp2
      exact hK _ _ ((KeepsOthers.alloc _ _).from _) (KeepS.of hW1 (bel1 _)) ⟨⟨⟨⟨hall, bR1.alloc _⟩, b102.alloc _⟩, hB1.alloc hB1.size _⟩, by rw [World.size_alloc]; omega⟩ ⟨W.heap.size, heap_alloc_new _ _, rfl⟩
    case body =>
      rintro lp pre x a' W _ _ ⟨⟨⟨⟨hall, bR1⟩, b102⟩, hB1⟩, hW1⟩ ⟨Bp, hP, rfl⟩ hlt
      obtain ⟨u, hu, hxu⟩ := of_may x
      simp at hu
      subst hu
      have hxl' := fly_size hxu hpl hxl
      have hxA := fly_at hxu (ht.below hB1)
      have hlen : liveK x.1.2.key now = decide (0 < (cutBx (pathTb nmAny x.1.2.q x.1.2.s x.1.2.fr x.1.2.b x.1.2.l) f).length) := by rw [HFE.out]; rfl
      have HSN : Hid (noneFly now ((pre ++ [x]).map vN) = !(liveK x.1.2.key now)) := by show _ = _; rw [List.map_append]; exact (noneFly_snoc now _ _).trans (by rw [hall, Bool.true_and])
      have c0 : W.cell? ⟨Bp, 0, none⟩ = some (.int .i64 x.1.2.q) := by simp [World.cell?, hP]
      have c1 : W.cell? ⟨Bp, 1, none⟩ = some (.int .i64 x.1.2.s) := by simp [World.cell?, hP]
      have c2 : W.cell? ⟨Bp, 2, none⟩ = some (.slice x.1.2.a x.1.2.l.length x.1.2.cap) := by simp [World.cell?, hP]
      have c3 : W.cell? ⟨Bp, 3, none⟩ = some (.int .i64 x.1.2.fr) := by simp [World.cell?, hP]
      have c4 : W.cell? ⟨Bp, 4, none⟩ = some (.int .i64 x.1.2.b) := by simp [World.cell?, hP]
      have cf := b102.cell
      have fl := fld_boxes
      clear hxu hall
      obtain ⟨m, hm'⟩ : ∃ m, (cutBx (pathTb nmAny x.1.2.q x.1.2.s x.1.2.fr x.1.2.b x.1.2.l) f).length = m := ⟨_, rfl⟩
      rw [hm'] at hlen
      have HM : Hid ((cutBx (pathTb nmAny x.1.2.q x.1.2.s x.1.2.fr x.1.2.b x.1.2.l) f).length = m) := hm'
      by_cases h0 : 0 < m
      · have h1 : (0 : Int) < (m : Int) := by omega
        have HE : Hid (noneFly now ((pre ++ [x]).map vN) = false) := by show _ = _; rw [HSN.out, hlen]; simp [h0]
        clear hlen hm'
        gi_wp2_with (refine ⟨trivial, ?_⟩; gi_at_call 64; refine (CallsIn.inRound lp (callsIn_wide.2 (linkTubeI_any hI nmAny x.1.2.q x.1.2.s x.1.2.fr x.1.2.b x.1.2.a x.1.2.b0 x.1.2.o x.1.2.cap x.1.2.l f _ hxl' hxA))).mono ?_; rintro e w2 ⟨v2, rfl, ho2, hb2⟩; obtain ⟨va, vc, rfl⟩ := owns_slice ho2; clear ho2; rw [HM.out]; have rc := (boxed_below bR1 hb2).cell; have rf := (boxed_below bR1 hb2).frozen)
        exact ⟨((keeps_below hb2).trans (KeepsOthers.setCell _ _ _)).from _, ⟨⟨rfl, HE.out⟩, (boxed_below bR1 hb2).set _⟩, (hB1.trans (hb2.mono hB1.size)).setCell (p := ⟨w.heap.size + 1, 0, none⟩) (by simp) _⟩
      · have h1 : ¬ (0 : Int) < (m : Int) := by omega
        have HE : Hid (noneFly now ((pre ++ [x]).map vN) = true) := by show _ = _; rw [HSN.out, hlen]; simp [h0]
        clear hlen hm'
        gi_wp2_with (refine ⟨trivial, ?_⟩; gi_at_call 64; refine (CallsIn.inRound lp (callsIn_wide.2 (linkTubeI_any hI nmAny x.1.2.q x.1.2.s x.1.2.fr x.1.2.b x.1.2.a x.1.2.b0 x.1.2.o x.1.2.cap x.1.2.l f _ hxl' hxA))).mono ?_; rintro e w2 ⟨v2, rfl, ho2, hb2⟩; obtain ⟨va, vc, rfl⟩ := owns_slice ho2; clear ho2; rw [HM.out]; have rc := (boxed_below bR1 hb2).cell; have rf := (boxed_below bR1 hb2).frozen)
        exact ⟨(keeps_below hb2).from _, KeepS.of hW1 hb2, ⟨⟨⟨⟨HE.out, boxed_below bR1 hb2⟩, boxed_below b102 hb2⟩, hB1.trans (hb2.mono hB1.size)⟩, Nat.le_trans hW1 hb2.size⟩⟩
    case done =>
      rintro D zs W hD hzs ⟨⟨⟨⟨hall, bR1⟩, b102⟩, hB1⟩, hW1⟩ hK
      have rc := bR1.cell
      have rf := bR1.frozen
      have HE : Hid (goesH now t = false) := by
        show _ = _
        rw [hzs, noneFly_one] at hall
        simpa using hall
      clear hall hzs
      gi_wp2
      have hK' := (KeepsOthers.setCell W ⟨w.heap.size + 1, 0, none⟩ (.bool false)).same D _ hK rfl
      refine ⟨by simp, .inl ⟨_, _, rfl, run_takeDeferred hK', ?_⟩⟩
      have hc5 := cell_kept (World.cell?_setCell_same' W ⟨w.heap.size + 1, 0, none⟩ (.bool false) (by rw [rc]; rfl)) (grownBy_putObj' _ D (.deferred none)) (fun r e => by cases e; exact ⟨_, hK', rfl⟩)
      refine ⟨.bool false, ?_, by rw [HE.out], (hB1.setCell (p := ⟨w.heap.size + 1, 0, none⟩) (by simp) _).trans (belowK_b (w := w) (Nat.le_refl _) _ D _ _ (by omega) hK' rfl rfl)⟩
      simp [results, Tryz.f71, go_sem, hc5]
    case stop =>
      rintro D c pre W hD ⟨post, hpost⟩ ⟨⟨⟨rfl, hbad⟩, bR1⟩, hB1⟩ hK
      have HE : Hid (goesH now t = true) := by
        show _ = _
        have h := noneFly_pre (m := post) hbad
        rw [← hpost, noneFly_one] at h
        simpa using h
      clear hbad hpost
      gi_wp2
      refine ⟨by simp, .inl ⟨_, _, rfl, run_takeDeferred hK, ?_⟩⟩
      have hc5 := cell_kept bR1.cell (grownBy_putObj' _ D (.deferred none)) (fun r e => by cases e; exact ⟨_, hK, rfl⟩)
      refine ⟨.bool true, ?_, by rw [HE.out], hB1.trans (belowK_b (w := w) (Nat.le_refl _) W D _ _ (by omega) hK rfl rfl)⟩
      simp [results, Tryz.f71, go_sem, hc5]
  · gi_wp2_with (refine ⟨trivial, ?_⟩; gi_at_call 80; refine (hs_in _ _ _ _ _).mono ?_; rintro e w' ⟨rfl, rfl⟩)
    obtain ⟨f, hf⟩ : ∃ f : Int, f = now + 1 := ⟨_, rfl⟩
    rw [← hf]
    have HFE : Hid (f = (if now < 10000 then now else 10000) + 1) := by
      show _ = _
      rw [hf]
      split <;> omega
    clear hf
    obtain ⟨W0, hW0⟩ : ∃ W0, ((((((w.alloc (.cells #[.string t.nm, .int .i64 t.n, .int .i64 t.p.q, .int .i64 t.p.s, .slice t.p.a t.p.l.length t.p.cap, .int .i64 t.p.fr, .int .i64 t.p.b, .int .i64 t.sn, .int .i64 t.x.q, .int .i64 t.x.s, .slice t.x.a t.x.l.length t.x.cap, .int .i64 t.x.fr, .int .i64 t.x.b] 52)).alloc (.cells #[.bool false] 4)).alloc (.cells #[.int .i64 f] 3)).alloc (.cells #[.string t.nm, .int .i64 t.n, .int .i64 t.p.q, .int .i64 t.p.s, .slice t.p.a t.p.l.length t.p.cap, .int .i64 t.p.fr, .int .i64 t.p.b, .int .i64 t.sn, .int .i64 t.x.q, .int .i64 t.x.s, .slice t.x.a t.x.l.length t.x.cap, .int .i64 t.x.fr, .int .i64 t.x.b] 52)).alloc (.cells #[.slice (some ⟨w.heap.size + 1 + 1 + 1, 0, none⟩) 1 1] 27)).alloc (.cells #[.func (.func 81) #[] #[]] 121)) = W0 := ⟨_, rfl⟩
    have hB0 : Below w.heap.size w W0 := by
      rw [← hW0]
      exact (((bel3 _ _ _).alloc (by simp; omega) _).alloc (by simp; omega) _).alloc (by simp; omega) _
    have hsz : W0.heap.size = w.heap.size + 6 := by rw [← hW0]; simp
    have bR : Boxed W0 (w.heap.size + 1) 4 (.bool false) := by
      rw [← hW0]
      have h := (((Boxed.new (w.alloc (.cells #[.string t.nm, .int .i64 t.n, .int .i64 t.p.q, .int .i64 t.p.s, .slice t.p.a t.p.l.length t.p.cap, .int .i64 t.p.fr, .int .i64 t.p.b, .int .i64 t.sn, .int .i64 t.x.q, .int .i64 t.x.s, .slice t.x.a t.x.l.length t.x.cap, .int .i64 t.x.fr, .int .i64 t.x.b] 52)) 4 (.bool false)).alloc (.cells #[.int .i64 f] 3)).alloc (.cells #[.string t.nm, .int .i64 t.n, .int .i64 t.p.q, .int .i64 t.p.s, .slice t.p.a t.p.l.length t.p.cap, .int .i64 t.p.fr, .int .i64 t.p.b, .int .i64 t.sn, .int .i64 t.x.q, .int .i64 t.x.s, .slice t.x.a t.x.l.length t.x.cap, .int .i64 t.x.fr, .int .i64 t.x.b] 52)).alloc (.cells #[.slice (some ⟨w.heap.size + 1 + 1 + 1, 0, none⟩) 1 1] 27)
      simp only [World.size_alloc] at h
      exact h.alloc _
    have bF : Boxed W0 (w.heap.size + 1 + 1) 3 (.int .i64 f) := by
      rw [← hW0]
      have h := ((Boxed.new ((w.alloc (.cells #[.string t.nm, .int .i64 t.n, .int .i64 t.p.q, .int .i64 t.p.s, .slice t.p.a t.p.l.length t.p.cap, .int .i64 t.p.fr, .int .i64 t.p.b, .int .i64 t.sn, .int .i64 t.x.q, .int .i64 t.x.s, .slice t.x.a t.x.l.length t.x.cap, .int .i64 t.x.fr, .int .i64 t.x.b] 52)).alloc (.cells #[.bool false] 4)) 3 (.int .i64 f)).alloc (.cells #[.string t.nm, .int .i64 t.n, .int .i64 t.p.q, .int .i64 t.p.s, .slice t.p.a t.p.l.length t.p.cap, .int .i64 t.p.fr, .int .i64 t.p.b, .int .i64 t.sn, .int .i64 t.x.q, .int .i64 t.x.s, .slice t.x.a t.x.l.length t.x.cap, .int .i64 t.x.fr, .int .i64 t.x.b] 52)).alloc (.cells #[.slice (some ⟨w.heap.size + 1 + 1 + 1, 0, none⟩) 1 1] 27)
      simp only [World.size_alloc] at h
      exact h.alloc _
    have bH : W0.heap[w.heap.size + 1 + 1 + 1]? = some (.cells #[.string t.nm, .int .i64 t.n, .int .i64 t.p.q, .int .i64 t.p.s, .slice t.p.a t.p.l.length t.p.cap, .int .i64 t.p.fr, .int .i64 t.p.b, .int .i64 t.sn, .int .i64 t.x.q, .int .i64 t.x.s, .slice t.x.a t.x.l.length t.x.cap, .int .i64 t.x.fr, .int .i64 t.x.b] 52 (0, 0)) := by
      rw [← hW0]
      have h := heap_alloc_new (((w.alloc (.cells #[.string t.nm, .int .i64 t.n, .int .i64 t.p.q, .int .i64 t.p.s, .slice t.p.a t.p.l.length t.p.cap, .int .i64 t.p.fr, .int .i64 t.p.b, .int .i64 t.sn, .int .i64 t.x.q, .int .i64 t.x.s, .slice t.x.a t.x.l.length t.x.cap, .int .i64 t.x.fr, .int .i64 t.x.b] 52)).alloc (.cells #[.bool false] 4)).alloc (.cells #[.int .i64 f] 3)) (.cells #[.string t.nm, .int .i64 t.n, .int .i64 t.p.q, .int .i64 t.p.s, .slice t.p.a t.p.l.length t.p.cap, .int .i64 t.p.fr, .int .i64 t.p.b, .int .i64 t.sn, .int .i64 t.x.q, .int .i64 t.x.s, .slice t.x.a t.x.l.length t.x.cap, .int .i64 t.x.fr, .int .i64 t.x.b] 52)
      simp only [World.size_alloc] at h
      exact ((bel2 _ _).block _ (lt_of_block h)).trans h
    have bA : Boxed W0 (w.heap.size + 1 + 1 + 1 + 1) 27 (.slice (some ⟨w.heap.size + 1 + 1 + 1, 0, none⟩) 1 1) := by
      rw [← hW0]
      have h := Boxed.new ((((w.alloc (.cells #[.string t.nm, .int .i64 t.n, .int .i64 t.p.q, .int .i64 t.p.s, .slice t.p.a t.p.l.length t.p.cap, .int .i64 t.p.fr, .int .i64 t.p.b, .int .i64 t.sn, .int .i64 t.x.q, .int .i64 t.x.s, .slice t.x.a t.x.l.length t.x.cap, .int .i64 t.x.fr, .int .i64 t.x.b] 52)).alloc (.cells #[.bool false] 4)).alloc (.cells #[.int .i64 f] 3)).alloc (.cells #[.string t.nm, .int .i64 t.n, .int .i64 t.p.q, .int .i64 t.p.s, .slice t.p.a t.p.l.length t.p.cap, .int .i64 t.p.fr, .int .i64 t.p.b, .int .i64 t.sn, .int .i64 t.x.q, .int .i64 t.x.s, .slice t.x.a t.x.l.length t.x.cap, .int .i64 t.x.fr, .int .i64 t.x.b] 52)) 27 (.slice (some ⟨w.heap.size + 1 + 1 + 1, 0, none⟩) 1 1)
      simp only [World.size_alloc] at h
      exact h.alloc _
    have bB : Boxed W0 (w.heap.size + 1 + 1 + 1 + 1 + 1) 121 (.func (.func 81) #[] #[]) := by
      rw [← hW0]
      have h := Boxed.new (((((w.alloc (.cells #[.string t.nm, .int .i64 t.n, .int .i64 t.p.q, .int .i64 t.p.s, .slice t.p.a t.p.l.length t.p.cap, .int .i64 t.p.fr, .int .i64 t.p.b, .int .i64 t.sn, .int .i64 t.x.q, .int .i64 t.x.s, .slice t.x.a t.x.l.length t.x.cap, .int .i64 t.x.fr, .int .i64 t.x.b] 52)).alloc (.cells #[.bool false] 4)).alloc (.cells #[.int .i64 f] 3)).alloc (.cells #[.string t.nm, .int .i64 t.n, .int .i64 t.p.q, .int .i64 t.p.s, .slice t.p.a t.p.l.length t.p.cap, .int .i64 t.p.fr, .int .i64 t.p.b, .int .i64 t.sn, .int .i64 t.x.q, .int .i64 t.x.s, .slice t.x.a t.x.l.length t.x.cap, .int .i64 t.x.fr, .int .i64 t.x.b] 52)).alloc (.cells #[.slice (some ⟨w.heap.size + 1 + 1 + 1, 0, none⟩) 1 1] 27)) 121 (.func (.func 81) #[] #[])
      simp only [World.size_alloc] at h
      exact h
    have hRow : HdsAt W0 (some ⟨w.heap.size + 1 + 1 + 1, 0, none⟩) (w.heap.size + 1 + 1 + 1) 0 [t] := by
      refine ⟨fun _ => rfl, fun _ => lt_of_block bH, fun i u hi => ?_, fun u hu => ?_⟩
      · obtain rfl : i = 0 := by
          rcases i with _ | i
          · rfl
          · simp at hi
        simp at hi
        subst hi
        simpa using cl_block bH
      · simp at hu
        subst hu
        exact ht.below hB0
    rw [hW0]
    clear hW0
    refine wpIn_rangeFunc_ownH rfl (by omega) (gf := 102) (lb := #[.pointer (some ⟨w.heap.size + 1 + 1 + 1 + 1, 0, none⟩), .pointer (some ⟨w.heap.size + 1 + 1 + 1 + 1 + 1, 0, none⟩)]) rfl trivial (enters_of Tryz.func102 (by kernel_rfl) rfl)
      (hs_stops _ (by omega) (w.heap.size + 1 + 1 + 1 + 1) (w.heap.size + 1 + 1 + 1 + 1 + 1) W0.heap.size (w.heap.size + 1 + 1 + 1) 0 1 (some ⟨w.heap.size + 1 + 1 + 1, 0, none⟩) [t] (by simp) W0 (Nat.le_refl _) bA bB hRow (fun _ => by omega)) KeepS.trans (KeepS.putObj (Nat.le_refl _)) (Below.refl _ _) (fun _ => rfl)
      (fun pre W => (((noneFly now (pre.map vN) = true ∧ Boxed W (w.heap.size + 1) 4 (.bool false)) ∧ Boxed W (w.heap.size + 1 + 1) 3 (.int .i64 f)) ∧ Below w.heap.size w W) ∧ W0.heap.size ≤ W.heap.size)
      (fun c pre W => ((c = .ret ∧ noneFly now (pre.map vN) = false) ∧ Boxed W (w.heap.size + 1) 4 (.bool true)) ∧ Below w.heap.size w W)
      (OwnFrom.and (OwnFrom.and (OwnFrom.and (OwnFrom.and (ownFrom_pure _ _) (Own.from (boxed_own _ _ _) _)) (Own.from (boxed_own _ _ _) _)) (ownFrom_below (Nat.le_refl _) (by omega))) (ownFrom_size _ _))
      (fun c => OwnFrom.and (OwnFrom.and (ownFrom_pure _ _) (Own.from (boxed_own _ _ _) _)) (ownFrom_below (Nat.le_refl _) (by omega)))
      ⟨⟨⟨⟨rfl, bR⟩, bF⟩, hB0⟩, Nat.le_refl _⟩
      (fun x a' W => ∃ Bp, W.heap[Bp]? = some (.cells #[.int .i64 x.1.2.q, .int .i64 x.1.2.s, .slice x.1.2.a x.1.2.l.length x.1.2.cap, .int .i64 x.1.2.fr, .int .i64 x.1.2.b] 43 (0, 0)) ∧ a' = { tmps := #[t.val, .int .i64 now, .pointer (some ⟨w.heap.size, 0, none⟩), undef, .pointer (some ⟨w.heap.size + 1, 0, none⟩), .pointer (some ⟨w.heap.size + 1 + 1, 0, none⟩), undef, .pointer (some ⟨Bp, 0, none⟩), .int .i64 now, .int .i64 now, .int .i64 f, t.val, .slice (some ⟨w.heap.size + 1 + 1 + 1, 0, none⟩) 1 1, .func (.func 102) #[] #[.pointer (some ⟨w.heap.size + 1 + 1 + 1 + 1, 0, none⟩), .pointer (some ⟨w.heap.size + 1 + 1 + 1 + 1 + 1, 0, none⟩)], .string x.1.1, .agg #[.int .i64 x.1.2.q, .int .i64 x.1.2.s, .slice x.1.2.a x.1.2.l.length x.1.2.cap, .int .i64 x.1.2.fr, .int .i64 x.1.2.b], undef, undef, undef, undef, undef, undef], defers := [] })
      (fun x a' _ X Y row hs' hg hr => by obtain ⟨Bp, h1, h2⟩ := hs'; exact ⟨Bp, (hg.block Bp (lt_of_block h1) (fun e => by obtain ⟨_, o, ho, hc⟩ := hr Bp e.symm; rw [h1] at ho; cases ho; cases hc)).trans h1, h2⟩)
      ?assign ?body ?done ?stop
    case assign =>
      rintro lp pre x W K ⟨⟨⟨⟨hall, bR1⟩, b102⟩, hB1⟩, hW1⟩ hK
      gi_wp2
      exact hK _ _ ((KeepsOthers.alloc _ _).from _) (KeepS.of hW1 (bel1 _)) ⟨⟨⟨⟨hall, bR1.alloc _⟩, b102.alloc _⟩, hB1.alloc hB1.size _⟩, by rw [World.size_alloc]; omega⟩ ⟨W.heap.size, heap_alloc_new _ _, rfl⟩
    case body =>
      rintro lp pre x a' W _ _ ⟨⟨⟨⟨hall, bR1⟩, b102⟩, hB1⟩, hW1⟩ ⟨Bp, hP, rfl⟩ hlt
      obtain ⟨u, hu, hxu⟩ := of_may x
      simp at hu
      subst hu
      have hxl' := fly_size hxu hpl hxl
      have hxA := fly_at hxu (ht.below hB1)
      have hlen : liveK x.1.2.key now = decide (0 < (cutBx (pathTb nmAny x.1.2.q x.1.2.s x.1.2.fr x.1.2.b x.1.2.l) f).length) := by rw [HFE.out]; rfl
      have HSN : Hid (noneFly now ((pre ++ [x]).map vN) = !(liveK x.1.2.key now)) := by show _ = _; rw [List.map_append]; exact (noneFly_snoc now _ _).trans (by rw [hall, Bool.true_and])
      have c0 : W.cell? ⟨Bp, 0, none⟩ = some (.int .i64 x.1.2.q) := by simp [World.cell?, hP]
      have c1 : W.cell? ⟨Bp, 1, none⟩ = some (.int .i64 x.1.2.s) := by simp [World.cell?, hP]
      have c2 : W.cell? ⟨Bp, 2, none⟩ = some (.slice x.1.2.a x.1.2.l.length x.1.2.cap) := by simp [World.cell?, hP]
      have c3 : W.cell? ⟨Bp, 3, none⟩ = some (.int .i64 x.1.2.fr) := by simp [World.cell?, hP]
      have c4 : W.cell? ⟨Bp, 4, none⟩ = some (.int .i64 x.1.2.b) := by simp [World.cell?, hP]
      have cf := b102.cell
      have fl := fld_boxes
      clear hxu hall
      obtain ⟨m, hm'⟩ : ∃ m, (cutBx (pathTb nmAny x.1.2.q x.1.2.s x.1.2.fr x.1.2.b x.1.2.l) f).length = m := ⟨_, rfl⟩
      rw [hm'] at hlen
      have HM : Hid ((cutBx (pathTb nmAny x.1.2.q x.1.2.s x.1.2.fr x.1.2.b x.1.2.l) f).length = m) := hm'
      by_cases h0 : 0 < m
      · have h1 : (0 : Int) < (m : Int) := by omega
        have HE : Hid (noneFly now ((pre ++ [x]).map vN) = false) := by show _ = _; rw [HSN.out, hlen]; simp [h0]
        clear hlen hm'
        gi_wp2_with (refine ⟨trivial, ?_⟩; gi_at_call 64; refine (CallsIn.inRound lp (callsIn_wide.2 (linkTubeI_any hI nmAny x.1.2.q x.1.2.s x.1.2.fr x.1.2.b x.1.2.a x.1.2.b0 x.1.2.o x.1.2.cap x.1.2.l f _ hxl' hxA))).mono ?_; rintro e w2 ⟨v2, rfl, ho2, hb2⟩; obtain ⟨va, vc, rfl⟩ := owns_slice ho2; clear ho2; rw [HM.out]; have rc := (boxed_below bR1 hb2).cell; have rf := (boxed_below bR1 hb2).frozen)
        exact ⟨((keeps_below hb2).trans (KeepsOthers.setCell _ _ _)).from _, ⟨⟨rfl, HE.out⟩, (boxed_below bR1 hb2).set _⟩, (hB1.trans (hb2.mono hB1.size)).setCell (p := ⟨w.heap.size + 1, 0, none⟩) (by simp) _⟩
      · have h1 : ¬ (0 : Int) < (m : Int) := by omega
        have HE : Hid (noneFly now ((pre ++ [x]).map vN) = true) := by show _ = _; rw [HSN.out, hlen]; simp [h0]
        clear hlen hm'
        gi_wp2_with (refine ⟨trivial, ?_⟩; gi_at_call 64; refine (CallsIn.inRound lp (callsIn_wide.2 (linkTubeI_any hI nmAny x.1.2.q x.1.2.s x.1.2.fr x.1.2.b x.1.2.a x.1.2.b0 x.1.2.o x.1.2.cap x.1.2.l f _ hxl' hxA))).mono ?_; rintro e w2 ⟨v2, rfl, ho2, hb2⟩; obtain ⟨va, vc, rfl⟩ := owns_slice ho2; clear ho2; rw [HM.out]; have rc := (boxed_below bR1 hb2).cell; have rf := (boxed_below bR1 hb2).frozen)
        exact ⟨(keeps_below hb2).from _, KeepS.of hW1 hb2, ⟨⟨⟨⟨HE.out, boxed_below bR1 hb2⟩, boxed_below b102 hb2⟩, hB1.trans (hb2.mono hB1.size)⟩, Nat.le_trans hW1 hb2.size⟩⟩
    case done =>
      rintro D zs W hD hzs ⟨⟨⟨⟨hall, bR1⟩, b102⟩, hB1⟩, hW1⟩ hK
      have rc := bR1.cell
      have rf := bR1.frozen
      have HE : Hid (goesH now t = false) := by
        show _ = _
        rw [hzs, noneFly_one] at hall
        simpa using hall
      clear hall hzs
      gi_wp2
      have hK' := (KeepsOthers.setCell W ⟨w.heap.size + 1, 0, none⟩ (.bool false)).same D _ hK rfl
      refine ⟨by simp, .inl ⟨_, _, rfl, run_takeDeferred hK', ?_⟩⟩
      have hc5 := cell_kept (World.cell?_setCell_same' W ⟨w.heap.size + 1, 0, none⟩ (.bool false) (by rw [rc]; rfl)) (grownBy_putObj' _ D (.deferred none)) (fun r e => by cases e; exact ⟨_, hK', rfl⟩)
      refine ⟨.bool false, ?_, by rw [HE.out], (hB1.setCell (p := ⟨w.heap.size + 1, 0, none⟩) (by simp) _).trans (belowK_b (w := w) (Nat.le_refl _) _ D _ _ (by omega) hK' rfl rfl)⟩
      simp [results, Tryz.f71, go_sem, hc5]
    case stop =>
      rintro D c pre W hD ⟨post, hpost⟩ ⟨⟨⟨rfl, hbad⟩, bR1⟩, hB1⟩ hK
      have HE : Hid (goesH now t = true) := by
        show _ = _
        have h := noneFly_pre (m := post) hbad
        rw [← hpost, noneFly_one] at h
        simpa using h
      clear hbad hpost
      gi_wp2
      refine ⟨by simp, .inl ⟨_, _, rfl, run_takeDeferred hK, ?_⟩⟩
      have hc5 := cell_kept bR1.cell (grownBy_putObj' _ D (.deferred none)) (fun r e => by cases e; exact ⟨_, hK, rfl⟩)
      refine ⟨.bool true, ?_, by rw [HE.out], hB1.trans (belowK_b (w := w) (Nat.le_refl _) W D _ _ (by omega) hK rfl rfl)⟩
      simp [results, Tryz.f71, go_sem, hc5]
end Go.Proofs.YtfmdejilhbankaaGreat

namespace Go.Proofs.YtfmdejilhbankaaGreat
open Go.RowKit

/-- What a block holds behind stores into it. -/
theorem heap_setCellsD (g : Nat) (T : TypeId) : ∀ (vs : List Value) (o : Nat) (w : World) (cur : Array Value), w.heap[g]? = some (.cells cur T (0, 0)) → ∃ A : Array Value, (w.setCells g o vs).heap[g]? = some (.cells A T (0, 0)) ∧ A.size = cur.size ∧ ∀ j, A[j]? = if o ≤ j ∧ j < o + vs.length ∧ j < cur.size then vs[j - o]? else cur[j]?
  | [], o, w, cur, h => ⟨cur, h, rfl, fun j => by rw [if_neg (by simp; omega)]⟩
  | v :: vs, o, w, cur, h => by
    have h1 := heap_setCell_same w g o cur T v h
    obtain ⟨A, a1, a2, a3⟩ := heap_setCellsD g T vs (o + 1) (w.setCell ⟨g, o, none⟩ v) _ h1
    refine ⟨A, a1, by rw [a2, Array.size_setIfInBounds], fun j => ?_⟩
    rw [a3 j, Array.size_setIfInBounds]
    by_cases c : o + 1 ≤ j ∧ j < o + 1 + vs.length ∧ j < cur.size
    · rw [if_pos c, if_pos (by simp; omega)]
      obtain ⟨m, hm⟩ : ∃ m, j - o = m + 1 := ⟨j - o - 1, by omega⟩
      rw [hm, List.getElem?_cons_succ]
      congr 1
      omega
    · rw [if_neg c, Array.getElem?_setIfInBounds]
      by_cases e : o = j
      · subst e
        rw [if_pos rfl]
        by_cases hs : o < cur.size
        · rw [if_pos hs, if_pos (by simp; omega)]
          simp
        · rw [if_neg hs, if_neg (by omega), Array.getElem?_eq_none (by omega)]
      · rw [if_neg e, if_neg (by simp; omega)]

theorem zero_held (w : World) : (zeroValue 52).run Tryz.prog w = .ok (.agg #[.string ⟨#[]⟩, .int .i64 0, .int .i64 0, .int .i64 0, .slice none 0 0, .int .i64 0, .int .i64 0, .int .i64 0, .int .i64 0, .int .i64 0, .slice none 0 0, .int .i64 0, .int .i64 0]) w := by
  obtain ⟨i0, hi, hz0, _, _⟩ := info_parts held_info
  simp [zeroValue, typeInfo, hi, hz0]
def zeroCl : List Value := [.string ⟨#[]⟩, .int .i64 0, .int .i64 0, .int .i64 0, .slice none 0 0, .int .i64 0, .int .i64 0, .int .i64 0, .int .i64 0, .int .i64 0, .slice none 0 0, .int .i64 0, .int .i64 0]
theorem hdCells_drop (us : List Hd) (i : Nat) : (hdCells us).drop (i * 13) = hdCells (us.drop i) := by
  induction i generalizing us with
  | zero => simp
  | succ i ih =>
    cases us with
    | nil => simp [hdCells]
    | cons u us =>
      rw [hdCells_cons, show (i + 1) * 13 = 13 + i * 13 by omega, ← List.drop_drop, List.drop_left' (cl_length u), ih, List.drop_succ_cons]
theorem hdCells_take (us : List Hd) (i : Nat) : (hdCells us).take (i * 13) = hdCells (us.take i) := by
  induction i generalizing us with
  | zero => simp [hdCells]
  | succ i ih =>
    cases us with
    | nil => simp [hdCells]
    | cons u us =>
      rw [hdCells_cons, show (i + 1) * 13 = 13 + i * 13 by omega, List.take_add, List.take_left' (cl_length u), List.drop_left' (cl_length u), ih, List.take_succ_cons, hdCells_cons]

theorem grown_setCellsD (g : Nat) : ∀ (vs : List Value) (o : Nat) (w : World), w.grownBy (w.setCells g o vs) (some g)
  | [], _, _ => ⟨rfl, rfl, rfl, Nat.le_refl _, fun _ _ _ => rfl⟩
  | v :: vs, o, w => grown_over2 (grown_set w ⟨g, o, none⟩ v) (grown_setCellsD g vs (o + 1) (w.setCell ⟨g, o, none⟩ v))


/-- Somebody is laid over somebody. -/
theorem rowH_put {w : World} {base g cap i : Nat} {vs : List Hd} {u : Hd} (h : w.ownsRow base 52 13 (.slice (some ⟨g, 0, none⟩) vs.length cap) vs.length (hdCells vs)) (hi : i < vs.length) :
    (w.setCells g (i * 13) u.cl).ownsRow base 52 13 (.slice (some ⟨g, 0, none⟩) vs.length cap) vs.length (hdCells (vs.set i u)) := by
  refine ⟨by rw [hdCells_length, List.length_set], ?_⟩
  rcases h.2 with ⟨h0, _⟩ | ⟨g', cap', cur, h1, h2, h3, h4, h5, h6, h7⟩
  · cases h0
  · simp only [Value.slice.injEq, Option.some.injEq, Addr.mk.injEq, and_true, true_and] at h1
    obtain ⟨rfl, rfl⟩ := h1
    obtain ⟨A, a1, a2, a3⟩ := heap_setCellsD g _ u.cl (i * 13) w cur h3
    refine Or.inr ⟨g, cap, A, rfl, h2, a1, h4, h5, by rw [a2]; exact h6, ?_⟩
    have hcur : ∀ j, j < vs.length * 13 → cur[j]? = (hdCells vs)[j]? := fun j hj => by
      rw [← h7, List.getElem?_take, if_pos hj, Array.getElem?_toList]
    have hcs : vs.length * 13 ≤ cur.size := by rw [h6]; exact Nat.mul_le_mul_right 13 h4
    have hsplit : vs.set i u = vs.take i ++ u :: vs.drop (i + 1) := List.set_eq_take_append_cons_drop.trans (if_pos hi)
    have hl1 : (hdCells (vs.take i)).length = i * 13 := by rw [hdCells_length, List.length_take, Nat.min_eq_left (by omega)]
    apply List.ext_getElem?
    intro j
    rw [List.getElem?_take]
    by_cases hj : j < vs.length * 13
    · rw [if_pos hj, Array.getElem?_toList, a3 j, hsplit, hdCells_append, hdCells_cons]
      by_cases c1 : j < i * 13
      · rw [if_neg (by omega), hcur j hj, List.getElem?_append_left (by omega), ← hdCells_take, List.getElem?_take, if_pos c1]
      · rw [List.getElem?_append_right (by omega), hl1]
        by_cases c2 : j < i * 13 + 13
        · rw [if_pos (by rw [cl_length]; omega), List.getElem?_append_left (by rw [cl_length]; omega)]
        · rw [if_neg (by rw [cl_length]; omega), hcur j hj, List.getElem?_append_right (by rw [cl_length]; omega), cl_length, ← hdCells_drop, List.getElem?_drop, show (i + 1) * 13 + (j - i * 13 - 13) = j by omega]
    · rw [if_neg hj, List.getElem?_eq_none (by rw [hdCells_length, List.length_set]; omega)]
/-- The end of the row is laid over, and let go. -/
theorem rowH_cut {w : World} {base g cap i : Nat} {vs : List Hd} (Z : List Value) (h : w.ownsRow base 52 13 (.slice (some ⟨g, 0, none⟩) vs.length cap) vs.length (hdCells vs)) (hi : i ≤ vs.length) :
    (w.setCells g (i * 13) Z).ownsRow base 52 13 (.slice (some ⟨g, 0, none⟩) i cap) i (hdCells (vs.take i)) := by
  refine ⟨by rw [hdCells_length, List.length_take, Nat.min_eq_left (by omega)], ?_⟩
  rcases h.2 with ⟨h0, _⟩ | ⟨g', cap', cur, h1, h2, h3, h4, h5, h6, h7⟩
  · cases h0
  · simp only [Value.slice.injEq, Option.some.injEq, Addr.mk.injEq, and_true, true_and] at h1
    obtain ⟨rfl, rfl⟩ := h1
    obtain ⟨A, a1, a2, a3⟩ := heap_setCellsD g _ Z (i * 13) w cur h3
    refine Or.inr ⟨g, cap, A, rfl, h2, a1, by omega, h5, by rw [a2]; exact h6, ?_⟩
    apply List.ext_getElem?
    intro j
    rw [List.getElem?_take, ← hdCells_take, List.getElem?_take]
    by_cases hj : j < i * 13
    · rw [if_pos hj, if_pos hj, Array.getElem?_toList, a3 j, if_neg (by omega), ← h7, List.getElem?_take, if_pos (by omega), Array.getElem?_toList]
    · rw [if_neg hj, if_neg hj]
theorem zeroCl_at (i : Nat) (h : i < 13) : ∃ v, (Value.cells (.agg #[.string ⟨#[]⟩, .int .i64 0, .int .i64 0, .int .i64 0, .slice none 0 0, .int .i64 0, .int .i64 0, .int .i64 0, .int .i64 0, .int .i64 0, .slice none 0 0, .int .i64 0, .int .i64 0]))[i]! = v ∧ v.oneCell' = true := by
  match i, h with
  | 0, _ | 1, _ | 2, _ | 3, _ | 4, _ | 5, _ | 6, _ | 7, _ | 8, _ | 9, _ | 10, _ | 11, _ | 12, _ => exact ⟨_, rfl, by kernel_rfl⟩
theorem run_clear_many (w : World) (ty : TypeId) (b o n c : Nat) (hn : n ≠ 0) (ht : w.there b o (n * 13)) :
    ∃ Z : List Value, (Builtin.clear_ #[27] ty #[.slice (some ⟨b, o, none⟩) n c]).run Tryz.prog w = .ok (.tuple #[]) (w.setCells b o Z) := by
  have hsz : (Value.cells (.agg #[.string ⟨#[]⟩, .int .i64 0, .int .i64 0, .int .i64 0, .slice none 0 0, .int .i64 0, .int .i64 0, .int .i64 0, .int .i64 0, .int .i64 0, .slice none 0 0, .int .i64 0, .int .i64 0])).size = 13 := by kernel_rfl
  refine ⟨(Builtin.zeroCells (Value.cells (.agg #[.string ⟨#[]⟩, .int .i64 0, .int .i64 0, .int .i64 0, .slice none 0 0, .int .i64 0, .int .i64 0, .int .i64 0, .int .i64 0, .int .i64 0, .slice none 0 0, .int .i64 0, .int .i64 0])) n).toList, ?_⟩
  obtain ⟨Z, hZ⟩ : ∃ Z, Builtin.zeroCells (Value.cells (.agg #[.string ⟨#[]⟩, .int .i64 0, .int .i64 0, .int .i64 0, .slice none 0 0, .int .i64 0, .int .i64 0, .int .i64 0, .int .i64 0, .int .i64 0, .slice none 0 0, .int .i64 0, .int .i64 0])) n = Z := ⟨_, rfl⟩
  have hl : Z.toList.length = n * 13 := by rw [← hZ, Array.length_toList, size_zeroCells, hsz]
  have ho : ∀ v ∈ Z.toList, v.oneCell' = true := by
    intro v hv
    rw [← hZ, Builtin.zeroCells, Array.toList_map, List.mem_map] at hv
    obtain ⟨i, _, rfl⟩ := hv
    obtain ⟨v, h1, h2⟩ := zeroCl_at (i % 13) (Nat.mod_lt _ (by decide))
    rw [hsz, h1]
    exact h2
  have hst := run_storeCells_cells (P := Tryz.prog) b o Z.toList 0 w (by intro j hj; exact (ht j (by omega)).1) (by intro j hj; exact (ht j (by omega)).2) ho
  simp only [Nat.add_zero] at hst
  obtain ⟨m, rfl⟩ : ∃ m, n = m + 1 := ⟨n - 1, by omega⟩
  rw [hZ]
  simp [Builtin.clear_, run_underlying Tryz.underlying27, hZ, hst]
end Go.Proofs.YtfmdejilhbankaaGreat

namespace Go.Proofs.YtfmdejilhbankaaGreat
open Go.RowKit

theorem isPast_any (hI : SpansSaid) (t : Hd) (now : Int) (B : Nat) (w : World) (v : Bool) (hnow : -9223372036854775808 ≤ now) (hpl : t.p.l.length ≤ 1048576) (hxl : t.x.l.length ≤ 1048576) (ht : HdAt w t) (hB : B < w.heap.size) (hc : w.cell? ⟨B, 0, none⟩ = some (.int .i64 now)) (hv : goesH now t = v) :
    Calls Tryz.prog 70 #[t.val, .pointer (some ⟨B, 0, none⟩)] w fun e w' => e = .returned (.bool (!v)) ∧ Below w.heap.size w w' := by
  have B0 := bel1 (w := w) (.cells #[.string t.nm, .int .i64 t.n, .int .i64 t.p.q, .int .i64 t.p.s, .slice t.p.a t.p.l.length t.p.cap, .int .i64 t.p.fr, .int .i64 t.p.b, .int .i64 t.sn, .int .i64 t.x.q, .int .i64 t.x.s, .slice t.x.a t.x.l.length t.x.cap, .int .i64 t.x.fr, .int .i64 t.x.b] 52)
  have n0 := B0.cell (p := ⟨B, 0, none⟩) hB
  rw [hc] at n0
  go_enter Tryz.func70, Tryz.ntmps70
  go_wp2_with fail
  refine (mayFly_any hI t now _ hnow hpl hxl (ht.below B0)).mono ?_
  rintro e w2 ⟨rfl, hb2⟩
  rw [hv]
  go_wp2
  go_ret
  exact ⟨rfl, B0.trans (hb2.mono (by simp))⟩

theorem PtAt.grownG {w w' : World} {p : Pt} {g : Nat} (h : PtAt w p) (hg : w.grownBy w' (some g)) (hne : p.l ≠ [] → p.b0 ≠ g) : PtAt w' p where
  here := h.here
  lt hl := Nat.lt_of_lt_of_le (h.lt hl) hg.size
  cell i t hi j v hv := by
    have hl : p.l ≠ [] := by intro e; rw [e] at hi; simp at hi
    exact (World.cell?_of_block (w := w) (a := ⟨p.b0, p.o + i * 7 + j, none⟩) (hg.block _ (h.lt hl) (fun e => hne hl (Option.some.inj e)))).trans (h.cell i t hi j v hv)
theorem HdAt.grownG {w w' : World} {t : Hd} {g : Nat} (h : HdAt w t) (hg : w.grownBy w' (some g)) (hp : t.p.l ≠ [] → t.p.b0 ≠ g) (hx : t.x.l ≠ [] → t.x.b0 ≠ g) : HdAt w' t := ⟨h.p.grownG hg hp, h.x.grownG hg hx⟩

/-- The place of the first who must have landed; -1, if nobody must. -/
def PastAt (now : Int) (us : List Hd) (p : Int) : Prop := (p = -1 ∧ us.filter (goesH now) = us) ∨ ∃ (k : Nat), p = k ∧ k < us.length ∧ (us.take (k + 1)).filter (goesH now) = us.take k
theorem past_step {now : Int} {us : List Hd} {k : Nat} {t : Hd} (h : (us.take k).filter (goesH now) = us.take k) (ht : us[k]? = some t) (hg : goesH now t = true) : (us.take (k + 1)).filter (goesH now) = us.take (k + 1) := by
  rw [List.take_add_one, ht, List.filter_append, h]
  simp [hg]
theorem past_hit {now : Int} {us : List Hd} {k : Nat} {t : Hd} (h : (us.take k).filter (goesH now) = us.take k) (ht : us[k]? = some t) (hg : goesH now t = false) : PastAt now us k := by
  refine Or.inr ⟨k, rfl, (List.getElem?_eq_some_iff.1 ht).1, ?_⟩
  rw [List.take_add_one, ht, List.filter_append, h]
  simp [hg]

set_option maxHeartbeats 2000000 in
theorem idxPast_any (hI : SpansSaid) (a : Option Addr) (b o cap : Nat) (us : List Hd) (now : Int) (B : Nat) (w : World) (hnow : -9223372036854775808 ≤ now) (hl : us.length ≤ 1048576) (hsm : ∀ t ∈ us, t.p.l.length ≤ 1048576 ∧ t.x.l.length ≤ 1048576) (hs : HdsAt w a b o us) (hB : B < w.heap.size) (hc : w.cell? ⟨B, 0, none⟩ = some (.int .i64 now)) :
    Calls Tryz.prog 97 #[.slice a us.length cap, .func (.func 70) #[] #[.pointer (some ⟨B, 0, none⟩)]] w fun e w' => ∃ p, e = .returned (.int .i64 p) ∧ PastAt now us p ∧ Below w.heap.size w w' := by
  go_enter Tryz.func97, Tryz.ntmps97
  go_wp2
  go_loopw [8] (fun v wr => ∃ k : Nat, k ≤ us.length ∧ v = .int .i64 k ∧ Below w.heap.size w wr ∧ (us.take k).filter (goesH now) = us.take k) (fun v _ => us.length - (intOf v).toNat)
  case atStart => exact ⟨0, Nat.zero_le _, rfl, Below.refl _ _, rfl⟩
  case round =>
    obtain ⟨k, hk, rfl, hb, hf⟩ := hrel
    have HF : Hid ((us.take k).filter (goesH now) = us.take k) := hf
    clear hf
    by_cases hlt : k < us.length
    · obtain ⟨t, htk⟩ : ∃ t, us[k]? = some t := ⟨us[k], List.getElem?_eq_getElem hlt⟩
      have hne : us ≠ [] := by intro e; subst e; simp at hlt
      obtain rfl := hs.here hne
      have hm := List.mem_of_getElem? htk
      obtain ⟨c0, c1, c2, c3, c4, c5, c6, c7, c8, c9, c10, c11, c12⟩ := cl_cells ((hs.below hb).cell k t htk)
      have k0 : (0 : Int) ≤ (k : Int) := by omega
      have k1 : (k : Int) < (us.length : Int) := by omega
      have HT : Hid (us[k]? = some t) := htk
      have hBr := Nat.lt_of_lt_of_le hB hb.size
      have hcr := (hb.cell (p := ⟨B, 0, none⟩) hB).trans hc
      clear htk
      cases he : goesH now t with
      | false =>
        have HE : Hid (goesH now t = false) := he
        have hi := isPast_any hI t now B wr false hnow (hsm t hm).1 (hsm t hm).2 ((hs.each t hm).below hb) hBr hcr he
        clear he
        go_wp2_with (go_at_call 70; refine hi.mono ?_; rintro e w2 ⟨rfl, hb2⟩)
        go_ret
        exact ⟨_, rfl, past_hit HF.out HT.out HE.out, hb.trans (hb2.mono hb.size)⟩
      | true =>
        have HE : Hid (goesH now t = true) := he
        have hi := isPast_any hI t now B wr true hnow (hsm t hm).1 (hsm t hm).2 ((hs.each t hm).below hb) hBr hcr he
        clear he
        go_wp2_with (go_at_call 70; refine hi.mono ?_; rintro e w2 ⟨rfl, hb2⟩)
        go_roundw
        case rel => exact ⟨k + 1, by omega, by go_num, hb.trans (hb2.mono hb.size), past_step HF.out HT.out HE.out⟩
        case measure => simp [intOf]; omega
    · obtain rfl : k = us.length := by omega
      go_wp2
      go_ret
      exact ⟨_, rfl, Or.inl ⟨rfl, by have h := HF.out; rwa [List.take_length] at h⟩, hb⟩

/-- The row while it is gone through: i have been kept of j. -/
structure DfW (w W : World) (base g cap i j : Nat) (now : Int) (us vs : List Hd) : Prop where
  grown : w.grownBy W (some g)
  len : vs.length = us.length
  lt : i < j
  le : j ≤ us.length
  kept : vs.take i = (us.take j).filter (goesH now)
  rest : vs.drop j = us.drop j
  row : W.ownsRow base 52 13 (.slice (some ⟨g, 0, none⟩) vs.length cap) vs.length (hdCells vs)
theorem DfW.keep {w W W' : World} {base g cap i j : Nat} {now : Int} {us vs : List Hd} (h : DfW w W base g cap i j now us vs) (hb : Below W.heap.size W W') : DfW w W' base g cap i j now us vs :=
  ⟨grown_over2 h.grown ⟨hb.os, hb.tape, hb.output, hb.size, fun k hk _ => hb.block k hk⟩, h.len, h.lt, h.le, h.kept, h.rest, owns_below h.row hb⟩
theorem DfW.skip {w W : World} {base g cap i j : Nat} {now : Int} {us vs : List Hd} {t : Hd} (h : DfW w W base g cap i j now us vs) (ht : us[j]? = some t) (hg : goesH now t = false) : DfW w W base g cap i (j + 1) now us vs := by
  have hj := (List.getElem?_eq_some_iff.1 ht).1
  have hlt := h.lt
  refine ⟨h.grown, h.len, by omega, by omega, ?_, ?_, h.row⟩
  · rw [h.kept, List.take_add_one, ht, List.filter_append]
    simp [hg]
  · rw [← List.drop_drop, h.rest, List.drop_drop]
theorem DfW.put {w W : World} {base g cap i j : Nat} {now : Int} {us vs : List Hd} {t : Hd} (h : DfW w W base g cap i j now us vs) (ht : us[j]? = some t) (hg : goesH now t = true) : DfW w (W.setCells g (i * 13) t.cl) base g cap (i + 1) (j + 1) now us (vs.set i t) := by
  have hj := (List.getElem?_eq_some_iff.1 ht).1
  have hlt := h.lt
  have hlen := h.len
  refine ⟨grown_over2 h.grown (grown_setCellsD g _ _ _), by rw [List.length_set]; exact hlen, by omega, by omega, ?_, ?_, ?_⟩
  · rw [List.take_add_one, List.take_set_of_le (Nat.le_refl _), h.kept, List.getElem?_set_self (by omega), List.take_add_one, ht, List.filter_append]
    simp [hg]
  · rw [List.drop_set_of_lt (by omega), ← List.drop_drop, h.rest, List.drop_drop]
  · have hr := rowH_put (u := t) h.row (by omega : i < vs.length)
    rw [List.length_set]
    exact hr
theorem DfW.at_ {w W : World} {base g cap i j : Nat} {now : Int} {us vs : List Hd} {t : Hd} (h : DfW w W base g cap i j now us vs) (ht : us[j]? = some t) : W.rangeAt g (j * 13) t.cl := fun k v hv => by
  have hj := (List.getElem?_eq_some_iff.1 ht).1
  have hk : k < 13 := by have := (List.getElem?_eq_some_iff.1 hv).1; rwa [cl_length] at this
  have hvs : vs[j]? = some t := by
    have e := congrArg (fun l => l[0]?) h.rest
    simp only [List.getElem?_drop, Nat.add_zero] at e
    rw [e, ht]
  have hlen := h.len
  exact (h.row.cellAt (j * 13 + k) (by omega)).trans ((hdCells_at vs j t k hvs hk).trans hv)
theorem DfW.there {w W : World} {base g cap i j : Nat} {now : Int} {us vs : List Hd} (h : DfW w W base g cap i j now us vs) (k : Nat) (hk : k < us.length * 13) : (∃ u, W.cell? ⟨g, k, none⟩ = some u) ∧ W.frozen? ⟨g, k, none⟩ = false := by
  refine ⟨?_, h.row.frozenAt k⟩
  have hlen := h.len
  rw [h.row.cellAt k (by omega), List.getElem?_eq_getElem (by rw [hdCells_length]; omega)]
  exact ⟨_, rfl⟩
end Go.Proofs.YtfmdejilhbankaaGreat

namespace Go.Proofs.YtfmdejilhbankaaGreat
open Go.RowKit

theorem rowH_at {w : World} {base g cap : Nat} {us : List Hd} (h : w.ownsRow base 52 13 (.slice (some ⟨g, 0, none⟩) us.length cap) us.length (hdCells us)) (hat : ∀ t ∈ us, HdAt w t) : HdsAt w (some ⟨g, 0, none⟩) g 0 us := by
  refine ⟨fun _ => rfl, fun _ => (h.lt g rfl).2, fun i t hi j v hv => ?_, hat⟩
  have hil := (List.getElem?_eq_some_iff.1 hi).1
  have hj : j < 13 := by have := (List.getElem?_eq_some_iff.1 hv).1; rwa [cl_length] at this
  rw [Nat.zero_add]
  exact (h.cellAt (i * 13 + j) (by omega)).trans ((hdCells_at us i t j hi hj).trans hv)

set_option maxRecDepth 100000 in
set_option maxHeartbeats 4000000 in
theorem delPast_any (hI : SpansSaid) (g cap base : Nat) (us : List Hd) (now : Int) (B : Nat) (w : World) (hnow : -9223372036854775808 ≤ now) (hl : us.length ≤ 1048576) (hsm : ∀ t ∈ us, t.p.l.length ≤ 1048576 ∧ t.x.l.length ≤ 1048576)
    (h : w.ownsRow base 52 13 (.slice (some ⟨g, 0, none⟩) us.length cap) us.length (hdCells us)) (hat : ∀ t ∈ us, HdAt w t ∧ (t.p.l ≠ [] → t.p.b0 ≠ g) ∧ (t.x.l ≠ [] → t.x.b0 ≠ g)) (hB : B < w.heap.size) (hBg : B ≠ g) (hc : w.cell? ⟨B, 0, none⟩ = some (.int .i64 now)) :
    Calls Tryz.prog 69 #[.slice (some ⟨g, 0, none⟩) us.length cap, .func (.func 70) #[] #[.pointer (some ⟨B, 0, none⟩)]] w
      fun e w' => e = .returned (.slice (some ⟨g, 0, none⟩) (us.filter (goesH now)).length cap) ∧ w'.ownsRow base 52 13 (.slice (some ⟨g, 0, none⟩) (us.filter (goesH now)).length cap) (us.filter (goesH now)).length (hdCells (us.filter (goesH now))) ∧ w.grownBy w' (some g) := by
  obtain ⟨hcap, hcm⟩ : us.length ≤ cap ∧ cap ≤ maxLen := by
    rcases h.2 with ⟨h0, _⟩ | ⟨g', cap', cur, h1, h2, h3, h4, h5, h6, h7⟩
    · cases h0
    · simp only [Value.slice.injEq, Option.some.injEq, Addr.mk.injEq, and_true, true_and] at h1
      obtain ⟨rfl, rfl⟩ := h1
      exact ⟨h4, h5⟩
  have H : Hid (w.ownsRow base 52 13 (.slice (some ⟨g, 0, none⟩) us.length cap) us.length (hdCells us)) := h
  go_enter Tryz.func69, Tryz.ntmps69
  go_wp2_with fail
  refine (idxPast_any hI (some ⟨g, 0, none⟩) g 0 cap us now B _ hnow hl hsm (rowH_at h (fun t ht => (hat t ht).1)) hB hc).mono ?_
  rintro e w1 ⟨p, rfl, hp, hb1⟩
  clear h
  rcases hp with ⟨rfl, hf⟩ | ⟨k, rfl, hk, hf⟩
  · have HF : Hid (us.filter (goesH now) = us) := hf
    clear hf
    go_wp2
    go_ret
    rw [HF.out]
    exact ⟨rfl, owns_below H.out hb1, ⟨hb1.os, hb1.tape, hb1.output, hb1.size, fun k hk _ => hb1.block k hk⟩⟩
  · have D0 : DfW w w1 base g cap k (k + 1) now us us := ⟨⟨hb1.os, hb1.tape, hb1.output, hb1.size, fun k hk _ => hb1.block k hk⟩, rfl, by omega, by omega, hf.symm, rfl, owns_below H.out hb1⟩
    have k0 : ¬ ((k : Int) = -1) := by omega
    have k1 : ((k : Int) == -1) = false := beq_eq_false_iff_ne.2 k0
    clear hf hb1
    go_wp2
    go_loopw [5, 6] (fun x y wr => ∃ (i j : Nat) (vs : List Hd), x = .int .i64 i ∧ y = .int .i64 j ∧ DfW w wr base g cap i j now us vs) (fun _ y _ => us.length - (intOf y).toNat)
    case atStart => exact ⟨k, k + 1, us, rfl, by go_num, D0⟩
    case round =>
      clear D0 hk k0 k1
      obtain ⟨i, j, vs, rfl, rfl, hD⟩ := hrel
      have hij := hD.lt
      have hjl := hD.le
      by_cases hlt : j < us.length
      · obtain ⟨t, htj⟩ : ∃ t, us[j]? = some t := ⟨us[j], List.getElem?_eq_getElem hlt⟩
        have hm := List.mem_of_getElem? htj
        obtain ⟨c0, c1, c2, c3, c4, c5, c6, c7, c8, c9, c10, c11, c12⟩ := cl_cells (hD.at_ htj)
        have j0 : (0 : Int) ≤ (j : Int) := by omega
        have j1 : (j : Int) < (us.length : Int) := by omega
        have i0 : (0 : Int) ≤ (i : Int) := by omega
        have i1 : (i : Int) < (us.length : Int) := by omega
        have B0 := bel1 (w := wr) (.cells #[.string t.nm, .int .i64 t.n, .int .i64 t.p.q, .int .i64 t.p.s, .slice t.p.a t.p.l.length t.p.cap, .int .i64 t.p.fr, .int .i64 t.p.b, .int .i64 t.sn, .int .i64 t.x.q, .int .i64 t.x.s, .slice t.x.a t.x.l.length t.x.cap, .int .i64 t.x.fr, .int .i64 t.x.b] 52)
        have hBr : B < wr.heap.size := Nat.lt_of_lt_of_le hB hD.grown.size
        have hcr : wr.cell? ⟨B, 0, none⟩ = some (.int .i64 now) := (World.cell?_of_block (w := w) (a := ⟨B, 0, none⟩) (hD.grown.block B hB (fun e => hBg (Option.some.inj e)))).trans hc
        have hA : HdAt (wr.alloc (.cells #[.string t.nm, .int .i64 t.n, .int .i64 t.p.q, .int .i64 t.p.s, .slice t.p.a t.p.l.length t.p.cap, .int .i64 t.p.fr, .int .i64 t.p.b, .int .i64 t.sn, .int .i64 t.x.q, .int .i64 t.x.s, .slice t.x.a t.x.l.length t.x.cap, .int .i64 t.x.fr, .int .i64 t.x.b] 52)) t := (((hat t hm).1.grownG hD.grown (hat t hm).2.1 (hat t hm).2.2)).below B0
        have HT : Hid (us[j]? = some t) := htj
        have D1 := hD.keep B0
        have X1 := heap_alloc_new wr (.cells #[.string t.nm, .int .i64 t.n, .int .i64 t.p.q, .int .i64 t.p.s, .slice t.p.a t.p.l.length t.p.cap, .int .i64 t.p.fr, .int .i64 t.p.b, .int .i64 t.sn, .int .i64 t.x.q, .int .i64 t.x.s, .slice t.x.a t.x.l.length t.x.cap, .int .i64 t.x.fr, .int .i64 t.x.b] 52)
        have HD : Hid (DfW w wr base g cap i j now us vs) := hD
        clear htj hD
        cases he : goesH now t with
        | false =>
          have HE : Hid (goesH now t = false) := he
          have hi := isPast_any hI t now B _ false hnow (hsm t hm).1 (hsm t hm).2 hA (Nat.lt_of_lt_of_le hBr B0.size) ((B0.cell (p := ⟨B, 0, none⟩) hBr).trans hcr) he
          clear he
          go_wp2_with (go_at_call 70; refine hi.mono ?_; rintro e w2 ⟨rfl, hb2⟩)
          go_roundw
          case rel => exact ⟨i, j + 1, vs, rfl, by go_num, (D1.keep hb2).skip HT.out HE.out⟩
          case measure => simp [intOf]; omega
        | true =>
          have HE : Hid (goesH now t = true) := he
          have hi := isPast_any hI t now B _ true hnow (hsm t hm).1 (hsm t hm).2 hA (Nat.lt_of_lt_of_le hBr B0.size) ((B0.cell (p := ⟨B, 0, none⟩) hBr).trans hcr) he
          clear he
          go_wp2_with fail
          refine hi.mono ?_
          rintro e w2 ⟨rfl, hb2⟩
          have C2 := D1.keep hb2
          have X2 := (hb2.block _ (lt_of_block X1)).trans X1
          obtain ⟨d0, d1, d2, d3, d4, d5, d6, d7, d8, d9, d10, d11, d12⟩ := cl_cells (cl_block X2)
          obtain ⟨⟨y0, b0⟩, f0⟩ := C2.there (i * 13) (by omega)
          obtain ⟨⟨y1, b1⟩, f1⟩ := C2.there (i * 13 + 1) (by omega)
          obtain ⟨⟨y2, b2⟩, f2⟩ := C2.there (i * 13 + 2) (by omega)
          obtain ⟨⟨y3, b3⟩, f3⟩ := C2.there (i * 13 + 3) (by omega)
          obtain ⟨⟨y4, b4⟩, f4⟩ := C2.there (i * 13 + 4) (by omega)
          obtain ⟨⟨y5, b5⟩, f5⟩ := C2.there (i * 13 + 5) (by omega)
          obtain ⟨⟨y6, b6⟩, f6⟩ := C2.there (i * 13 + 6) (by omega)
          obtain ⟨⟨y7, b7⟩, f7⟩ := C2.there (i * 13 + 7) (by omega)
          obtain ⟨⟨y8, b8⟩, f8⟩ := C2.there (i * 13 + 8) (by omega)
          obtain ⟨⟨y9, b9⟩, f9⟩ := C2.there (i * 13 + 9) (by omega)
          obtain ⟨⟨y10, b10⟩, f10⟩ := C2.there (i * 13 + 10) (by omega)
          obtain ⟨⟨y11, b11⟩, f11⟩ := C2.there (i * 13 + 11) (by omega)
          obtain ⟨⟨y12, b12⟩, f12⟩ := C2.there (i * 13 + 12) (by omega)
          have HC2 : Hid (DfW w w2 base g cap i j now us vs) := C2
          clear C2 c0 c1 c2 c3 c4 c5 c6 c7 c8 c9 c10 c11 c12
          go_wp2
          go_roundw
          case rel => exact ⟨i + 1, j + 1, vs.set i t, by go_num, by go_num, HC2.out.put HT.out HE.out⟩
          case measure => simp [intOf]; omega
      · obtain rfl : j = us.length := by omega
        have HK : Hid (vs.take i = us.filter (goesH now)) := by show _ = _; rw [hD.kept, List.take_length]
        have hvl := hD.len
        obtain ⟨Z, hcl⟩ := run_clear_many wr 0 g (i * 13) (us.length - i) (cap - i) (by omega) (fun m hm => ⟨by obtain ⟨u, hu⟩ := (hD.there (i * 13 + m) (by omega)).1; rw [hu]; rfl, (hD.there (i * 13 + m) (by omega)).2⟩)
        have hic : i ≤ cap := by omega
        have i0 : (0 : Int) ≤ (i : Int) := by omega
        have i1 : (i : Int) ≤ (us.length : Int) := by omega
        have i2 : ¬ cap = i := by omega
        have HD : Hid (DfW w wr base g cap i us.length now us vs) := hD
        clear hD
        go_wp2
        go_ret
        have hr := rowH_cut Z HD.out.row (by omega : i ≤ vs.length)
        have hil : (us.filter (goesH now)).length = i := by rw [← HK.out, List.length_take]; omega
        rw [hil, ← HK.out]
        exact ⟨rfl, hr, grown_over2 HD.out.grown (grown_setCellsD g _ _ _)⟩
end Go.Proofs.YtfmdejilhbankaaGreat

namespace Go.Proofs.YtfmdejilhbankaaGreat
open Go.RowKit

/-- The copy of a path that is not nil. -/
theorem copiedI_pt (p : Pt) (w : World) (hl : p.l.length ≤ 1048576) (ha : p.a = some ⟨p.b0, p.o, none⟩) (hs : PtAt w p) :
    Calls Tryz.prog 68 #[p.val] w fun e w' => ∃ a c, e = .returned (.agg #[.int .i64 p.q, .int .i64 p.s, .slice a p.l.length c, .int .i64 p.fr, .int .i64 p.b]) ∧ w'.ownsRow w.heap.size 102 7 (.slice a p.l.length c) p.l.length (stepCells p.l) ∧ Below w.heap.size w w' := by
  obtain ⟨q, s, fr, b, a, b0, o, cap, l⟩ := p
  simp only at hl ha hs ⊢
  subst ha
  refine (pathCopied_any q s fr b b0 o cap l w hl hs).mono ?_
  rintro e w' ⟨v, rfl, ho, hb⟩
  obtain ⟨a, c, rfl⟩ := own_slice ho
  exact ⟨a, c, rfl, ho, hb⟩
/-- The blocks of the call: the book, what has been laid up to now. -/
structure CiW (w wr : World) (la : Int) (va v : Value) (us : List Hd) : Prop where
  old : Below w.heap.size w wr
  arg : Cbx wr w.heap.size #[.int .i64 la, va]
  bk : Cbx wr (w.heap.size + 1) #[.int .i64 la, v]
  own : BkOwn wr (w.heap.size + 1 + 1) v us
theorem CiW.keep {w wr w2 : World} {la : Int} {va v : Value} {us : List Hd} (h : CiW w wr la va v us) (hb : Below wr.heap.size wr w2) : CiW w w2 la va v us :=
  ⟨h.old.trans (hb.mono h.old.size), h.arg.keep hb, h.bk.keep hb, h.own.below hb⟩
theorem CiW.grow {w W w' : World} {la : Int} {va v : Value} {us : List Hd} (h : CiW w W la va v us) (hg : W.grownBy w' v.ownBlock) : Cbx w' w.heap.size #[.int .i64 la, va] ∧ Cbx w' (w.heap.size + 1) #[.int .i64 la, v] := by
  have hs : Spared v.ownBlock.toList W w' := Spared.grown hg (by simp)
  have hb := owns_base h.own.row
  exact ⟨h.arg.spared hs (fun e => by have := hb _ (by simpa using e); omega), h.bk.spared hs (fun e => by have := hb _ (by simpa using e); omega)⟩
theorem CiW.push {w W w' : World} {la : Int} {va v v' : Value} {us : List Hd} {u : Hd} (h : CiW w W la va v us) (ho : w'.ownsRow (w.heap.size + 1 + 1) 52 13 v' (us.length + 1) (hdCells us ++ u.cl)) (hg : W.grownBy w' v.ownBlock) (hu : HdOwn W (w.heap.size + 1 + 1) u) (ha : ∀ t ∈ us, HdApart t u) :
    CiW w (w'.setCell ⟨w.heap.size + 1, 1, none⟩ v') la va v' (us ++ [u]) := by
  have hbase := owns_base h.own.row
  obtain ⟨g0, g2⟩ := h.grow hg
  have hN := h.own.push ho hg hu ha
  refine ⟨?_, bx_other g0 (by omega) _ _, ?_, ?_⟩
  · exact (h.old.grown hg h.old.size (fun k e => by have := hbase k e; omega)).setCell (by show _ ≤ w.heap.size + 1; omega) _
  · exact bx_set g2 1 v'
  · have hlt := hN.lt
    refine hN.spared (S := [w.heap.size + 1]) (Spared.grown (grown_set _ _ _) (by simp)) (fun k hk hk' => ?_)
    simp at hk'
    have := (hlt k hk).1
    omega

set_option maxHeartbeats 4000000 in
set_option maxRecDepth 20000 in
theorem copyBI_any (la : Int) (a : Option Addr) (b o cap : Nat) (ts : List Hd) (w : World) (hl : ts.length ≤ 1048576) (hsm : ∀ t ∈ ts, t.p.l.length ≤ 1048576 ∧ t.x.l.length ≤ 1048576) (hput : ∀ t ∈ ts, t.p.a = some ⟨t.p.b0, t.p.o, none⟩ ∧ t.x.a = some ⟨t.x.b0, t.x.o, none⟩) (hs : HdsAt w a b o ts) :
    Calls Tryz.prog 44 #[.agg #[.int .i64 la, .slice a ts.length cap]] w
      fun e w' => ∃ (v : Value) (us : List Hd), e = .returned (.pointer (some ⟨w.heap.size + 1, 0, none⟩)) ∧ us.map Hd.key = ts.map Hd.key ∧ Cbx w' (w.heap.size + 1) #[.int .i64 la, v] ∧ BkOwn w' (w.heap.size + 1 + 1) v us ∧ Below w.heap.size w w' := by
  obtain ⟨i0, hi, hz0, hz1, hz2⟩ := info_parts held_info
  have HPUT : Hid (∀ t ∈ ts, t.p.a = some ⟨t.p.b0, t.p.o, none⟩ ∧ t.x.a = some ⟨t.x.b0, t.x.o, none⟩) := hput
  clear hput
  have C0 : CiW w ((w.alloc (.cells #[.int .i64 la, .slice a ts.length cap] 29)).alloc (.cells #[.int .i64 la, .slice none 0 0] 76)) la (.slice a ts.length cap) (.slice none 0 0) [] := by
    refine ⟨bel2 _ _, (Cbx.new w #[.int .i64 la, .slice a ts.length cap] 29).keep (bel1 _), ?_, BkOwn.nil _ _⟩
    have h := Cbx.new (w.alloc (.cells #[.int .i64 la, .slice a ts.length cap] 29)) #[.int .i64 la, .slice none 0 0] 76
    rwa [World.size_alloc] at h
  go_enter Tryz.func44, Tryz.ntmps44
  go_wp2
  go_loopw [14] (fun x wr => ∃ (k : Nat) (v : Value) (us : List Hd), k ≤ ts.length ∧ x = .int .i64 k ∧ CiW w wr la (.slice a ts.length cap) v us ∧ us.map Hd.key = (ts.take k).map Hd.key) (fun x _ => ts.length - (intOf x).toNat)
  case atStart => exact ⟨0, _, [], Nat.zero_le _, rfl, C0, rfl⟩
  case round =>
    clear C0
    obtain ⟨k, v, us, hk, rfl, hC, hK⟩ := hrel
    by_cases hlt : k < ts.length
    · obtain ⟨t, htk⟩ : ∃ t, ts[k]? = some t := ⟨ts[k], List.getElem?_eq_getElem hlt⟩
      have hne : ts ≠ [] := by intro e; subst e; simp at hlt
      obtain rfl := hs.here hne
      have hm := List.mem_of_getElem? htk
      obtain ⟨hpl, hxl⟩ := hsm t hm
      have hul := keys_len hK hk
      have k0 : (0 : Int) ≤ (k : Int) := by omega
      have k1 : (k : Int) < (ts.length : Int) := by omega
      have HK : Hid (us.map Hd.key = (ts.take k).map Hd.key) := hK
      have HT : Hid (ts[k]? = some t) := htk
      have hus : us.length ≤ 1048576 := by omega
      obtain ⟨a1, c1, rfl⟩ := own_slice hC.own.row
      obtain ⟨e0, e1, e2, e3, e4, e5, e6, e7, e8, e9, e10, e11, e12⟩ := cl_cells ((hs.below hC.old).cell k t HT.out)
      have C1 := hC.keep (bel1 (.cells #[.string t.nm, .int .i64 t.n, .int .i64 t.p.q, .int .i64 t.p.s, .slice t.p.a t.p.l.length t.p.cap, .int .i64 t.p.fr, .int .i64 t.p.b, .int .i64 t.sn, .int .i64 t.x.q, .int .i64 t.x.s, .slice t.x.a t.x.l.length t.x.cap, .int .i64 t.x.fr, .int .i64 t.x.b] 52))
      have X1 := Cbx.new wr #[.string t.nm, .int .i64 t.n, .int .i64 t.p.q, .int .i64 t.p.s, .slice t.p.a t.p.l.length t.p.cap, .int .i64 t.p.fr, .int .i64 t.p.b, .int .i64 t.sn, .int .i64 t.x.q, .int .i64 t.x.s, .slice t.x.a t.x.l.length t.x.cap, .int .i64 t.x.fr, .int .i64 t.x.b] 52
      have H1 : HdAt (wr.alloc (.cells #[.string t.nm, .int .i64 t.n, .int .i64 t.p.q, .int .i64 t.p.s, .slice t.p.a t.p.l.length t.p.cap, .int .i64 t.p.fr, .int .i64 t.p.b, .int .i64 t.sn, .int .i64 t.x.q, .int .i64 t.x.s, .slice t.x.a t.x.l.length t.x.cap, .int .i64 t.x.fr, .int .i64 t.x.b] 52)) t := (hs.each t hm).below (C1.old)
      have HC0 : Hid (CiW w wr la (.slice (some ⟨b, o, none⟩) ts.length cap) (.slice a1 us.length c1) us) := hC
      have zr := hC.bk.lt
      clear htk hK hul hC
      go_wp2
      clear e0 e1 e2 e3 e4 e5 e6 e7 e8 e9 e10 e11 e12
      go_cut [] (fun wd => ∃ u : Hd, u.key = t.key ∧ CiW w wd la (.slice (some ⟨b, o, none⟩) ts.length cap) (.slice a1 us.length c1) us ∧ Cbx wd wr.heap.size #[.string u.nm, .int .i64 u.n, .int .i64 u.p.q, .int .i64 u.p.s, .slice u.p.a u.p.l.length u.p.cap, .int .i64 u.p.fr, .int .i64 u.p.b, .int .i64 u.sn, .int .i64 u.x.q, .int .i64 u.x.s, .slice u.x.a u.x.l.length u.x.cap, .int .i64 u.x.fr, .int .i64 u.x.b] ∧ HdOwn wd (wr.heap.size + 1) u)
      case first =>
        obtain ⟨W1, hW1⟩ : ∃ W1, wr.alloc (.cells #[.string t.nm, .int .i64 t.n, .int .i64 t.p.q, .int .i64 t.p.s, .slice t.p.a t.p.l.length t.p.cap, .int .i64 t.p.fr, .int .i64 t.p.b, .int .i64 t.sn, .int .i64 t.x.q, .int .i64 t.x.s, .slice t.x.a t.x.l.length t.x.cap, .int .i64 t.x.fr, .int .i64 t.x.b] 52) = W1 := ⟨_, rfl⟩
        have zW1 : W1.heap.size = wr.heap.size + 1 := by rw [← hW1]; simp
        rw [hW1] at C1 X1 H1 ⊢
        have ZW1 : Hid (W1.heap.size = wr.heap.size + 1) := zW1
        have BW1 : Hid (Below wr.heap.size wr W1) := by show Below _ _ _; rw [← hW1]; exact bel1 _
        clear zW1 hW1
        have D : Below W1.heap.size W1 W1.drew := (Below.refl _ _).drew
        have hF : ∀ W : World, Below W1.heap.size W1 W → W.cell? ⟨wr.heap.size, 0, none⟩ = some (.string t.nm) ∧ W.cell? ⟨wr.heap.size, 1, none⟩ = some (.int .i64 t.n) ∧ W.cell? ⟨wr.heap.size, 2, none⟩ = some (.int .i64 t.p.q) ∧ W.cell? ⟨wr.heap.size, 3, none⟩ = some (.int .i64 t.p.s) ∧ W.cell? ⟨wr.heap.size, 4, none⟩ = some (.slice t.p.a t.p.l.length t.p.cap) ∧ W.cell? ⟨wr.heap.size, 5, none⟩ = some (.int .i64 t.p.fr) ∧ W.cell? ⟨wr.heap.size, 6, none⟩ = some (.int .i64 t.p.b) ∧ W.cell? ⟨wr.heap.size, 7, none⟩ = some (.int .i64 t.sn) ∧ W.cell? ⟨wr.heap.size, 8, none⟩ = some (.int .i64 t.x.q) ∧ W.cell? ⟨wr.heap.size, 9, none⟩ = some (.int .i64 t.x.s) ∧ W.cell? ⟨wr.heap.size, 10, none⟩ = some (.slice t.x.a t.x.l.length t.x.cap) ∧ W.cell? ⟨wr.heap.size, 11, none⟩ = some (.int .i64 t.x.fr) ∧ W.cell? ⟨wr.heap.size, 12, none⟩ = some (.int .i64 t.x.b) ∧ ∀ j, W.frozen? ⟨wr.heap.size, j, none⟩ = false := fun W hb => by
          have h := X1.keep hb
          exact ⟨h.c 0, h.c 1, h.c 2, h.c 3, h.c 4, h.c 5, h.c 6, h.c 7, h.c 8, h.c 9, h.c 10, h.c 11, h.c 12, h.f⟩
        obtain ⟨d0, d1, d2, d3, d4, d5, d6, d7, d8, d9, d10, d11, d12, df⟩ := hF W1.drew D
        refine wp_region_any (by kernel_rfl) ?_
        change wpAny _ _ _ _ _ _ _ (World.drew _)
        refine wpAny_take (i := 0) (v := .pointer (some ⟨wr.heap.size, 2, none⟩)) rfl (by kernel_rfl) (by kernel_rfl) (by kernel_rfl) (fun _ _ _ h => h) (Or.inl ⟨by rfl, fun W => by go_simp⟩) ?_
        refine wpAny_take (i := 3) (v := .pointer (some ⟨wr.heap.size, 8, none⟩)) rfl (by kernel_rfl) (by kernel_rfl) (by kernel_rfl) (fun _ _ _ h => h) (Or.inl ⟨by rfl, fun W => by go_simp⟩) ?_
        refine wpAny_ready (rs := [1, 4]) (by kernel_rfl) (by simp) ?_
        refine AllReady.cons rfl (fun K hK => ?_) ?_
        · go_simp
          refine hK _ _ ?_
          clear hK K
          refine wpAny_ready (rs := [2, 4]) (by kernel_rfl) (by simp) ?_
          refine AllReady.cons rfl (fun K hK => ?_) ?_
          · go_simp
            refine (copiedI_pt t.p _ hpl (HPUT.out t hm).1 (H1.below D).p).mono ?_
            rintro e w2 ⟨a2, k2, rfl, o2, hb2⟩
            have hb12 := D.trans (hb2.mono D.size)
            obtain ⟨f0, f1, f2, f3, f4, f5, f6, f7, f8, f9, f10, f11, f12, ff⟩ := hF w2 hb12
            refine hK _ _ ?_
            clear hK K
            refine wpAny_ready (rs := [4]) (by kernel_rfl) (by simp) ?_
            refine AllReady.cons rfl (fun K hK => ?_) ?_
            · go_simp
              refine hK _ _ ?_
              clear hK K
              refine wpAny_take (i := 6) (v := .pointer (some ⟨wr.heap.size, 2, none⟩)) rfl (by kernel_rfl) (by kernel_rfl) (by kernel_rfl) (fun _ _ _ h => h) (Or.inl ⟨by rfl, fun W => by go_simp⟩) ?_
              refine wpAny_ready (rs := [5]) (by kernel_rfl) (by simp) ?_
              refine AllReady.cons rfl (fun K hK => ?_) ?_
              · go_simp
                refine (copiedI_pt t.x _ hxl (HPUT.out t hm).2 (H1.below hb12).x).mono ?_
                rintro e w3 ⟨a3, k3, rfl, o3, hb3⟩
                have hb13 := hb12.trans (hb3.mono hb12.size)
                obtain ⟨g0, g1, g2, g3, g4, g5, g6, g7, g8, g9, g10, g11, g12, gf⟩ := hF w3 hb13
                refine hK _ _ ?_
                clear hK K
                refine wpAny_ready (rs := [7]) (by kernel_rfl) (by simp) ?_
                refine AllReady.cons rfl (fun K hK => ?_) ?_
                · go_simp
                  refine hK _ _ ?_
                  clear hK K
                  refine wpAny_take (i := 8) (v := .pointer (some ⟨wr.heap.size, 8, none⟩)) rfl (by kernel_rfl) (by kernel_rfl) (by kernel_rfl) (fun _ _ _ h => h) (Or.inl ⟨by rfl, fun W => by go_simp⟩) ?_
                  refine wpAny_ready (rs := [9]) (by kernel_rfl) (by simp) ?_
                  refine AllReady.cons rfl (fun K hK => ?_) ?_
                  · go_simp
                    refine hK _ _ ?_
                    clear hK K
                    refine wpAny_done (by kernel_rfl) ?_ _
                    have z1 := ZW1.out
                    have B3 : Below wr.heap.size wr w3 := BW1.out.trans (hb13.mono (by omega))
                    have ne2 : ∀ k, (Value.slice a2 t.p.l.length k2).ownBlock = some k → k ≠ wr.heap.size := fun k e => by have : W1.heap.size ≤ k := owns_base o2 k e; omega
                    have ne3 : ∀ k, (Value.slice a3 t.x.l.length k3).ownBlock = some k → k ≠ wr.heap.size := fun k e => by have : w2.heap.size ≤ k := owns_base o3 k e; have := hb12.size; omega
                    have o2' := owns_below o2 hb3
                    have HI : Hid (∀ k, (Value.slice a2 t.p.l.length k2).ownBlock = some k → (Value.slice a3 t.x.l.length k3).ownBlock ≠ some k) := fun k e e' => by have := owns_lt o2 k e; have : w2.heap.size ≤ k := owns_base o3 k e'; omega
                    have X3 := X1.keep hb13
                    have O2 := owns_lowerO (base' := wr.heap.size + 1) o2' (show _ ≤ W1.heap.size by omega)
                    have O3 := owns_lowerO (base' := wr.heap.size + 1) o3 (show _ ≤ w2.heap.size by have := hb12.size; omega)
                    clear z1 o2' o2 o3 hb2 hb3 hb12
                    go_wp2
                    go_meet
                    case rel =>
                      refine ⟨⟨t.nm, t.n, ⟨t.p.q, t.p.s, t.p.fr, t.p.b, a2, 0, 0, k2, t.p.l⟩, t.sn, ⟨t.x.q, t.x.s, t.x.fr, t.x.b, a3, 0, 0, k3, t.x.l⟩⟩, rfl, HC0.out.keep ?_, ?_, ⟨?_, ?_, HI.out⟩⟩
                      · iterate 10 (refine Below.setCell ?_ (by simp) _)
                        exact B3
                      · have h := bx_set (bx_set (bx_set (bx_set (bx_set (bx_set (bx_set (bx_set (bx_set (bx_set (X3) 2 (.int .i64 t.p.q)) 3 (.int .i64 t.p.s)) 4 (.slice a2 t.p.l.length k2)) 5 (.int .i64 t.p.fr)) 6 (.int .i64 t.p.b)) 8 (.int .i64 t.x.q)) 9 (.int .i64 t.x.s)) 10 (.slice a3 t.x.l.length k3)) 11 (.int .i64 t.x.fr)) 12 (.int .i64 t.x.b)
                        simpa using h
                      · iterate 10 (refine owns_set ?_ ne2 _ _)
                        exact O2
                      · iterate 10 (refine owns_set ?_ ne3 _ _)
                        exact O3
                  exact AllReady.nil
                exact AllReady.nil
              exact AllReady.nil
            exact AllReady.nil
          refine AllReady.cons rfl (fun K hK => ?_) ?_
          · go_simp
            refine hK _ _ ?_
            clear hK K
            refine wpAny_ready (rs := [2]) (by kernel_rfl) (by simp) ?_
            refine AllReady.cons rfl (fun K hK => ?_) ?_
            · go_simp
              refine (copiedI_pt t.p _ hpl (HPUT.out t hm).1 (H1.below D).p).mono ?_
              rintro e w2 ⟨a2, k2, rfl, o2, hb2⟩
              have hb12 := D.trans (hb2.mono D.size)
              obtain ⟨f0, f1, f2, f3, f4, f5, f6, f7, f8, f9, f10, f11, f12, ff⟩ := hF w2 hb12
              refine hK _ _ ?_
              clear hK K
              refine wpAny_take (i := 6) (v := .pointer (some ⟨wr.heap.size, 2, none⟩)) rfl (by kernel_rfl) (by kernel_rfl) (by kernel_rfl) (fun _ _ _ h => h) (Or.inl ⟨by rfl, fun W => by go_simp⟩) ?_
              refine wpAny_ready (rs := [5]) (by kernel_rfl) (by simp) ?_
              refine AllReady.cons rfl (fun K hK => ?_) ?_
              · go_simp
                refine (copiedI_pt t.x _ hxl (HPUT.out t hm).2 (H1.below hb12).x).mono ?_
                rintro e w3 ⟨a3, k3, rfl, o3, hb3⟩
                have hb13 := hb12.trans (hb3.mono hb12.size)
                obtain ⟨g0, g1, g2, g3, g4, g5, g6, g7, g8, g9, g10, g11, g12, gf⟩ := hF w3 hb13
                refine hK _ _ ?_
                clear hK K
                refine wpAny_ready (rs := [7]) (by kernel_rfl) (by simp) ?_
                refine AllReady.cons rfl (fun K hK => ?_) ?_
                · go_simp
                  refine hK _ _ ?_
                  clear hK K
                  refine wpAny_take (i := 8) (v := .pointer (some ⟨wr.heap.size, 8, none⟩)) rfl (by kernel_rfl) (by kernel_rfl) (by kernel_rfl) (fun _ _ _ h => h) (Or.inl ⟨by rfl, fun W => by go_simp⟩) ?_
                  refine wpAny_ready (rs := [9]) (by kernel_rfl) (by simp) ?_
                  refine AllReady.cons rfl (fun K hK => ?_) ?_
                  · go_simp
                    refine hK _ _ ?_
                    clear hK K
                    refine wpAny_done (by kernel_rfl) ?_ _
                    have z1 := ZW1.out
                    have B3 : Below wr.heap.size wr w3 := BW1.out.trans (hb13.mono (by omega))
                    have ne2 : ∀ k, (Value.slice a2 t.p.l.length k2).ownBlock = some k → k ≠ wr.heap.size := fun k e => by have : W1.heap.size ≤ k := owns_base o2 k e; omega
                    have ne3 : ∀ k, (Value.slice a3 t.x.l.length k3).ownBlock = some k → k ≠ wr.heap.size := fun k e => by have : w2.heap.size ≤ k := owns_base o3 k e; have := hb12.size; omega
                    have o2' := owns_below o2 hb3
                    have HI : Hid (∀ k, (Value.slice a2 t.p.l.length k2).ownBlock = some k → (Value.slice a3 t.x.l.length k3).ownBlock ≠ some k) := fun k e e' => by have := owns_lt o2 k e; have : w2.heap.size ≤ k := owns_base o3 k e'; omega
                    have X3 := X1.keep hb13
                    have O2 := owns_lowerO (base' := wr.heap.size + 1) o2' (show _ ≤ W1.heap.size by omega)
                    have O3 := owns_lowerO (base' := wr.heap.size + 1) o3 (show _ ≤ w2.heap.size by have := hb12.size; omega)
                    clear z1 o2' o2 o3 hb2 hb3 hb12
                    go_wp2
                    go_meet
                    case rel =>
                      refine ⟨⟨t.nm, t.n, ⟨t.p.q, t.p.s, t.p.fr, t.p.b, a2, 0, 0, k2, t.p.l⟩, t.sn, ⟨t.x.q, t.x.s, t.x.fr, t.x.b, a3, 0, 0, k3, t.x.l⟩⟩, rfl, HC0.out.keep ?_, ?_, ⟨?_, ?_, HI.out⟩⟩
                      · iterate 10 (refine Below.setCell ?_ (by simp) _)
                        exact B3
                      · have h := bx_set (bx_set (bx_set (bx_set (bx_set (bx_set (bx_set (bx_set (bx_set (bx_set (X3) 2 (.int .i64 t.p.q)) 3 (.int .i64 t.p.s)) 4 (.slice a2 t.p.l.length k2)) 5 (.int .i64 t.p.fr)) 6 (.int .i64 t.p.b)) 8 (.int .i64 t.x.q)) 9 (.int .i64 t.x.s)) 10 (.slice a3 t.x.l.length k3)) 11 (.int .i64 t.x.fr)) 12 (.int .i64 t.x.b)
                        simpa using h
                      · iterate 10 (refine owns_set ?_ ne2 _ _)
                        exact O2
                      · iterate 10 (refine owns_set ?_ ne3 _ _)
                        exact O3
                  exact AllReady.nil
                exact AllReady.nil
              exact AllReady.nil
            exact AllReady.nil
          exact AllReady.nil
        refine AllReady.cons rfl (fun K hK => ?_) ?_
        · go_simp
          refine hK _ _ ?_
          clear hK K
          refine wpAny_ready (rs := [1]) (by kernel_rfl) (by simp) ?_
          refine AllReady.cons rfl (fun K hK => ?_) ?_
          · go_simp
            refine hK _ _ ?_
            clear hK K
            refine wpAny_ready (rs := [2]) (by kernel_rfl) (by simp) ?_
            refine AllReady.cons rfl (fun K hK => ?_) ?_
            · go_simp
              refine (copiedI_pt t.p _ hpl (HPUT.out t hm).1 (H1.below D).p).mono ?_
              rintro e w2 ⟨a2, k2, rfl, o2, hb2⟩
              have hb12 := D.trans (hb2.mono D.size)
              obtain ⟨f0, f1, f2, f3, f4, f5, f6, f7, f8, f9, f10, f11, f12, ff⟩ := hF w2 hb12
              refine hK _ _ ?_
              clear hK K
              refine wpAny_take (i := 6) (v := .pointer (some ⟨wr.heap.size, 2, none⟩)) rfl (by kernel_rfl) (by kernel_rfl) (by kernel_rfl) (fun _ _ _ h => h) (Or.inl ⟨by rfl, fun W => by go_simp⟩) ?_
              refine wpAny_ready (rs := [5]) (by kernel_rfl) (by simp) ?_
              refine AllReady.cons rfl (fun K hK => ?_) ?_
              · go_simp
                refine (copiedI_pt t.x _ hxl (HPUT.out t hm).2 (H1.below hb12).x).mono ?_
                rintro e w3 ⟨a3, k3, rfl, o3, hb3⟩
                have hb13 := hb12.trans (hb3.mono hb12.size)
                obtain ⟨g0, g1, g2, g3, g4, g5, g6, g7, g8, g9, g10, g11, g12, gf⟩ := hF w3 hb13
                refine hK _ _ ?_
                clear hK K
                refine wpAny_ready (rs := [7]) (by kernel_rfl) (by simp) ?_
                refine AllReady.cons rfl (fun K hK => ?_) ?_
                · go_simp
                  refine hK _ _ ?_
                  clear hK K
                  refine wpAny_take (i := 8) (v := .pointer (some ⟨wr.heap.size, 8, none⟩)) rfl (by kernel_rfl) (by kernel_rfl) (by kernel_rfl) (fun _ _ _ h => h) (Or.inl ⟨by rfl, fun W => by go_simp⟩) ?_
                  refine wpAny_ready (rs := [9]) (by kernel_rfl) (by simp) ?_
                  refine AllReady.cons rfl (fun K hK => ?_) ?_
                  · go_simp
                    refine hK _ _ ?_
                    clear hK K
                    refine wpAny_done (by kernel_rfl) ?_ _
                    have z1 := ZW1.out
                    have B3 : Below wr.heap.size wr w3 := BW1.out.trans (hb13.mono (by omega))
                    have ne2 : ∀ k, (Value.slice a2 t.p.l.length k2).ownBlock = some k → k ≠ wr.heap.size := fun k e => by have : W1.heap.size ≤ k := owns_base o2 k e; omega
                    have ne3 : ∀ k, (Value.slice a3 t.x.l.length k3).ownBlock = some k → k ≠ wr.heap.size := fun k e => by have : w2.heap.size ≤ k := owns_base o3 k e; have := hb12.size; omega
                    have o2' := owns_below o2 hb3
                    have HI : Hid (∀ k, (Value.slice a2 t.p.l.length k2).ownBlock = some k → (Value.slice a3 t.x.l.length k3).ownBlock ≠ some k) := fun k e e' => by have := owns_lt o2 k e; have : w2.heap.size ≤ k := owns_base o3 k e'; omega
                    have X3 := X1.keep hb13
                    have O2 := owns_lowerO (base' := wr.heap.size + 1) o2' (show _ ≤ W1.heap.size by omega)
                    have O3 := owns_lowerO (base' := wr.heap.size + 1) o3 (show _ ≤ w2.heap.size by have := hb12.size; omega)
                    clear z1 o2' o2 o3 hb2 hb3 hb12
                    go_wp2
                    go_meet
                    case rel =>
                      refine ⟨⟨t.nm, t.n, ⟨t.p.q, t.p.s, t.p.fr, t.p.b, a2, 0, 0, k2, t.p.l⟩, t.sn, ⟨t.x.q, t.x.s, t.x.fr, t.x.b, a3, 0, 0, k3, t.x.l⟩⟩, rfl, HC0.out.keep ?_, ?_, ⟨?_, ?_, HI.out⟩⟩
                      · iterate 10 (refine Below.setCell ?_ (by simp) _)
                        exact B3
                      · have h := bx_set (bx_set (bx_set (bx_set (bx_set (bx_set (bx_set (bx_set (bx_set (bx_set (X3) 2 (.int .i64 t.p.q)) 3 (.int .i64 t.p.s)) 4 (.slice a2 t.p.l.length k2)) 5 (.int .i64 t.p.fr)) 6 (.int .i64 t.p.b)) 8 (.int .i64 t.x.q)) 9 (.int .i64 t.x.s)) 10 (.slice a3 t.x.l.length k3)) 11 (.int .i64 t.x.fr)) 12 (.int .i64 t.x.b)
                        simpa using h
                      · iterate 10 (refine owns_set ?_ ne2 _ _)
                        exact O2
                      · iterate 10 (refine owns_set ?_ ne3 _ _)
                        exact O3
                  exact AllReady.nil
                exact AllReady.nil
              exact AllReady.nil
            exact AllReady.nil
          exact AllReady.nil
        exact AllReady.nil
      case rest =>
        clear C1 X1 H1
        obtain ⟨u, hu, hC, X2, hO⟩ := hcut
        have hzc : wr.heap.size < wc.heap.size := X2.lt
        have AP : ∀ t ∈ us, HdApart t u := apart_new HC0.out.own hO (by omega)
        have O2 := hO.lower (base' := w.heap.size + 1 + 1) (by omega)
        have D : Below wc.heap.size wc wc.drew := (Below.refl _ _).drew
        have hF : ∀ W : World, Below wc.heap.size wc W → W.cell? ⟨w.heap.size + 1, 1, none⟩ = some (.slice a1 us.length c1) ∧ W.cell? ⟨wr.heap.size, 0, none⟩ = some (.string u.nm) ∧ W.cell? ⟨wr.heap.size, 1, none⟩ = some (.int .i64 u.n) ∧ W.cell? ⟨wr.heap.size, 2, none⟩ = some (.int .i64 u.p.q) ∧ W.cell? ⟨wr.heap.size, 3, none⟩ = some (.int .i64 u.p.s) ∧ W.cell? ⟨wr.heap.size, 4, none⟩ = some (.slice u.p.a u.p.l.length u.p.cap) ∧ W.cell? ⟨wr.heap.size, 5, none⟩ = some (.int .i64 u.p.fr) ∧ W.cell? ⟨wr.heap.size, 6, none⟩ = some (.int .i64 u.p.b) ∧ W.cell? ⟨wr.heap.size, 7, none⟩ = some (.int .i64 u.sn) ∧ W.cell? ⟨wr.heap.size, 8, none⟩ = some (.int .i64 u.x.q) ∧ W.cell? ⟨wr.heap.size, 9, none⟩ = some (.int .i64 u.x.s) ∧ W.cell? ⟨wr.heap.size, 10, none⟩ = some (.slice u.x.a u.x.l.length u.x.cap) ∧ W.cell? ⟨wr.heap.size, 11, none⟩ = some (.int .i64 u.x.fr) ∧ W.cell? ⟨wr.heap.size, 12, none⟩ = some (.int .i64 u.x.b) ∧ ∀ j, W.frozen? ⟨wr.heap.size, j, none⟩ = false := fun W hb => by
          have h := X2.keep hb
          exact ⟨(hC.keep hb).bk.c 1, h.c 0, h.c 1, h.c 2, h.c 3, h.c 4, h.c 5, h.c 6, h.c 7, h.c 8, h.c 9, h.c 10, h.c 11, h.c 12, h.f⟩
        obtain ⟨y1, d0, d1, d2, d3, d4, d5, d6, d7, d8, d9, d10, d11, d12, df⟩ := hF wc.drew D
        have hE : ∀ (W1 w9 : World) (a9 : Option Addr) (c9 : Nat), CiW w W1 la (.slice (some ⟨b, o, none⟩) ts.length cap) (.slice a1 us.length c1) us → HdOwn W1 (w.heap.size + 1 + 1) u → w9.ownsRow (w.heap.size + 1 + 1) 52 13 (.slice a9 (us.length + 1) c9) (us.length + 1) (hdCells us ++ u.cl) → W1.grownBy w9 (Value.slice a1 us.length c1).ownBlock →
            ∃ (k' : Nat) (v : Value) (us' : List Hd), k' ≤ ts.length ∧ Value.int .i64 ((k : Int) + 1) = .int .i64 k' ∧ CiW w (w9.setCell ⟨w.heap.size + 1, 1, none⟩ (.slice a9 (us.length + 1) c9)) la (.slice (some ⟨b, o, none⟩) ts.length cap) v us' ∧ us'.map Hd.key = (ts.take k').map Hd.key := fun W1 w9 a9 c9 h1 h3 h5 h6 =>
          ⟨k + 1, _, us ++ [u], by omega, by go_num, h1.push h5 h6 h3 AP, keys_push HK.out HT.out hu⟩
        go_wp2
        refine wp_region_any (by kernel_rfl) ?_
        change wpAny _ _ _ _ _ _ _ (World.drew _)
        refine wpAny_take (i := 0) (v := .pointer (some ⟨w.heap.size + 1, 0, none⟩)) rfl (by kernel_rfl) (by kernel_rfl) (by kernel_rfl) (fun _ _ _ h => h) (Or.inl ⟨by rfl, fun W => by go_simp⟩) ?_
        refine wpAny_take (i := 1) (v := .pointer (some ⟨w.heap.size + 1, 0, none⟩)) rfl (by kernel_rfl) (by kernel_rfl) (by kernel_rfl) (fun _ _ _ h => h) (Or.inl ⟨by rfl, fun W => by go_simp⟩) ?_
        refine wpAny_take (i := 2) (v := .pointer (some ⟨w.heap.size + 1, 0, none⟩)) rfl (by kernel_rfl) (by kernel_rfl) (by kernel_rfl) (fun _ _ _ h => h) (Or.inl ⟨by rfl, fun W => by go_simp⟩) ?_
        refine wpAny_take (i := 3) (v := .pointer (some ⟨w.heap.size + 1, 0, none⟩)) rfl (by kernel_rfl) (by kernel_rfl) (by kernel_rfl) (fun _ _ _ h => h) (Or.inl ⟨by rfl, fun W => by go_simp⟩) ?_
        refine wpAny_take (i := 4) (v := .pointer (some ⟨w.heap.size + 1, 1, none⟩)) rfl (by kernel_rfl) (by kernel_rfl) (by kernel_rfl) (fun _ _ _ h => h) (Or.inl ⟨by rfl, fun W => by go_simp⟩) ?_
        refine wpAny_ready (rs := [5, 6]) (by kernel_rfl) (by simp) ?_
        refine AllReady.cons rfl (fun K hK => ?_) ?_
        · go_simp
          refine hK _ _ ?_
          clear hK K
          refine wpAny_ready (rs := [6]) (by kernel_rfl) (by simp) ?_
          refine AllReady.cons rfl (fun K hK => ?_) ?_
          · go_simp
            refine hK _ _ ?_
            clear hK K
            refine wpAny_ready (rs := [7]) (by kernel_rfl) (by simp) ?_
            refine AllReady.cons rfl (fun K hK => ?_) ?_
            · go_simp
              have CC := (hC.keep D).keep (bel1 (.cells #[.string u.nm, .int .i64 u.n, .int .i64 u.p.q, .int .i64 u.p.s, .slice u.p.a u.p.l.length u.p.cap, .int .i64 u.p.fr, .int .i64 u.p.b, .int .i64 u.sn, .int .i64 u.x.q, .int .i64 u.x.s, .slice u.x.a u.x.l.length u.x.cap, .int .i64 u.x.fr, .int .i64 u.x.b] 52))
              have OO := (O2.below D).below (bel1 (.cells #[.string u.nm, .int .i64 u.n, .int .i64 u.p.q, .int .i64 u.p.s, .slice u.p.a u.p.l.length u.p.cap, .int .i64 u.p.fr, .int .i64 u.p.b, .int .i64 u.sn, .int .i64 u.x.q, .int .i64 u.x.s, .slice u.x.a u.x.l.length u.x.cap, .int .i64 u.x.fr, .int .i64 u.x.b] 52))
              have yb : (wc.alloc (.cells #[.string u.nm, .int .i64 u.n, .int .i64 u.p.q, .int .i64 u.p.s, .slice u.p.a u.p.l.length u.p.cap, .int .i64 u.p.fr, .int .i64 u.p.b, .int .i64 u.sn, .int .i64 u.x.q, .int .i64 u.x.s, .slice u.x.a u.x.l.length u.x.cap, .int .i64 u.x.fr, .int .i64 u.x.b] 52)).cell? ⟨w.heap.size + 1, 1, none⟩ = some (.slice a1 us.length c1) := CC.bk.c 1
              refine hK _ _ ?_
              clear hK K
              refine wpAny_ready (rs := [8]) (by kernel_rfl) (by simp) ?_
              refine AllReady.cons rfl (fun K hK => ?_) ?_
              · have zc := CC.bk.lt
                rw [World.size_alloc] at zc
                refine wp_append_own _ (.tmp 31) (.tmp 33) 27 rfl (w.heap.size + 1 + 1) 52 i0 (.agg #[.string ⟨#[]⟩, .int .i64 0, .int .i64 0, .int .i64 0, .slice none 0 0, .int .i64 0, .int .i64 0, .int .i64 0, .int .i64 0, .int .i64 0, .slice none 0 0, .int .i64 0, .int .i64 0]) 13 144 Tryz.underlying27 hi hz0 hz1 hz2 rfl (by decide) (.slice a1 us.length c1) us.length (hdCells us) rfl CC.own.row ⟨wc.drew.heap.size, 0, none⟩ 1 1 u.cl rfl rfl (cl_newL wc.drew u _) (cl_one u) (by unfold maxLen; omega) (by omega) (by simp; omega) ?_
                intro v9 w9 hown9 hgrow9 hnil9
                obtain ⟨a9, c9', rfl⟩ := own_slice hown9
                obtain ⟨g0, g2⟩ := CC.grow hgrow9
                have z0 : w9.cell? ⟨w.heap.size + 1, 0, none⟩ = some (.int .i64 la) := g2.c 0
                have z1 : w9.cell? ⟨w.heap.size + 1, 1, none⟩ = some (.slice a1 us.length c1) := g2.c 1
                have zf := g2.f
                refine hK _ _ ?_
                clear hK K
                refine wpAny_take (i := 9) (v := .pointer (some ⟨w.heap.size + 1, 0, none⟩)) rfl (by kernel_rfl) (by kernel_rfl) (by kernel_rfl) (fun _ _ _ h => h) (Or.inl ⟨by rfl, fun W => by go_simp⟩) ?_
                refine wpAny_take (i := 10) (v := .pointer (some ⟨w.heap.size + 1, 0, none⟩)) rfl (by kernel_rfl) (by kernel_rfl) (by kernel_rfl) (fun _ _ _ h => h) (Or.inl ⟨by rfl, fun W => by go_simp⟩) ?_
                refine wpAny_take (i := 11) (v := .pointer (some ⟨w.heap.size + 1, 1, none⟩)) rfl (by kernel_rfl) (by kernel_rfl) (by kernel_rfl) (fun _ _ _ h => h) (Or.inl ⟨by rfl, fun W => by go_simp⟩) ?_
                refine wpAny_ready (rs := [12]) (by kernel_rfl) (by simp) ?_
                refine AllReady.cons rfl (fun K hK => ?_) ?_
                · go_simp
                  refine hK _ _ ?_
                  clear hK K
                  refine wpAny_done (by kernel_rfl) ?_ _
                  go_wp2
                  go_roundw
                  case rel => exact hE _ _ _ _ CC OO hown9 hgrow9
                  case measure => simp [intOf]; omega
                exact AllReady.nil
              exact AllReady.nil
            exact AllReady.nil
          exact AllReady.nil
        refine AllReady.cons rfl (fun K hK => ?_) ?_
        · go_simp
          refine hK _ _ ?_
          clear hK K
          refine wpAny_ready (rs := [5, 7]) (by kernel_rfl) (by simp) ?_
          refine AllReady.cons rfl (fun K hK => ?_) ?_
          · go_simp
            refine hK _ _ ?_
            clear hK K
            refine wpAny_ready (rs := [7]) (by kernel_rfl) (by simp) ?_
            refine AllReady.cons rfl (fun K hK => ?_) ?_
            · go_simp
              have CC := (hC.keep D).keep (bel1 (.cells #[.string u.nm, .int .i64 u.n, .int .i64 u.p.q, .int .i64 u.p.s, .slice u.p.a u.p.l.length u.p.cap, .int .i64 u.p.fr, .int .i64 u.p.b, .int .i64 u.sn, .int .i64 u.x.q, .int .i64 u.x.s, .slice u.x.a u.x.l.length u.x.cap, .int .i64 u.x.fr, .int .i64 u.x.b] 52))
              have OO := (O2.below D).below (bel1 (.cells #[.string u.nm, .int .i64 u.n, .int .i64 u.p.q, .int .i64 u.p.s, .slice u.p.a u.p.l.length u.p.cap, .int .i64 u.p.fr, .int .i64 u.p.b, .int .i64 u.sn, .int .i64 u.x.q, .int .i64 u.x.s, .slice u.x.a u.x.l.length u.x.cap, .int .i64 u.x.fr, .int .i64 u.x.b] 52))
              have yb : (wc.alloc (.cells #[.string u.nm, .int .i64 u.n, .int .i64 u.p.q, .int .i64 u.p.s, .slice u.p.a u.p.l.length u.p.cap, .int .i64 u.p.fr, .int .i64 u.p.b, .int .i64 u.sn, .int .i64 u.x.q, .int .i64 u.x.s, .slice u.x.a u.x.l.length u.x.cap, .int .i64 u.x.fr, .int .i64 u.x.b] 52)).cell? ⟨w.heap.size + 1, 1, none⟩ = some (.slice a1 us.length c1) := CC.bk.c 1
              refine hK _ _ ?_
              clear hK K
              refine wpAny_ready (rs := [8]) (by kernel_rfl) (by simp) ?_
              refine AllReady.cons rfl (fun K hK => ?_) ?_
              · have zc := CC.bk.lt
                rw [World.size_alloc] at zc
                refine wp_append_own _ (.tmp 31) (.tmp 33) 27 rfl (w.heap.size + 1 + 1) 52 i0 (.agg #[.string ⟨#[]⟩, .int .i64 0, .int .i64 0, .int .i64 0, .slice none 0 0, .int .i64 0, .int .i64 0, .int .i64 0, .int .i64 0, .int .i64 0, .slice none 0 0, .int .i64 0, .int .i64 0]) 13 144 Tryz.underlying27 hi hz0 hz1 hz2 rfl (by decide) (.slice a1 us.length c1) us.length (hdCells us) rfl CC.own.row ⟨wc.drew.heap.size, 0, none⟩ 1 1 u.cl rfl rfl (cl_newL wc.drew u _) (cl_one u) (by unfold maxLen; omega) (by omega) (by simp; omega) ?_
                intro v9 w9 hown9 hgrow9 hnil9
                obtain ⟨a9, c9', rfl⟩ := own_slice hown9
                obtain ⟨g0, g2⟩ := CC.grow hgrow9
                have z0 : w9.cell? ⟨w.heap.size + 1, 0, none⟩ = some (.int .i64 la) := g2.c 0
                have z1 : w9.cell? ⟨w.heap.size + 1, 1, none⟩ = some (.slice a1 us.length c1) := g2.c 1
                have zf := g2.f
                refine hK _ _ ?_
                clear hK K
                refine wpAny_take (i := 9) (v := .pointer (some ⟨w.heap.size + 1, 0, none⟩)) rfl (by kernel_rfl) (by kernel_rfl) (by kernel_rfl) (fun _ _ _ h => h) (Or.inl ⟨by rfl, fun W => by go_simp⟩) ?_
                refine wpAny_take (i := 10) (v := .pointer (some ⟨w.heap.size + 1, 0, none⟩)) rfl (by kernel_rfl) (by kernel_rfl) (by kernel_rfl) (fun _ _ _ h => h) (Or.inl ⟨by rfl, fun W => by go_simp⟩) ?_
                refine wpAny_take (i := 11) (v := .pointer (some ⟨w.heap.size + 1, 1, none⟩)) rfl (by kernel_rfl) (by kernel_rfl) (by kernel_rfl) (fun _ _ _ h => h) (Or.inl ⟨by rfl, fun W => by go_simp⟩) ?_
                refine wpAny_ready (rs := [12]) (by kernel_rfl) (by simp) ?_
                refine AllReady.cons rfl (fun K hK => ?_) ?_
                · go_simp
                  refine hK _ _ ?_
                  clear hK K
                  refine wpAny_done (by kernel_rfl) ?_ _
                  go_wp2
                  go_roundw
                  case rel => exact hE _ _ _ _ CC OO hown9 hgrow9
                  case measure => simp [intOf]; omega
                exact AllReady.nil
              exact AllReady.nil
            exact AllReady.nil
          refine AllReady.cons rfl (fun K hK => ?_) ?_
          · go_simp
            have CC := (hC.keep D).keep (bel1 (.cells #[.string u.nm, .int .i64 u.n, .int .i64 u.p.q, .int .i64 u.p.s, .slice u.p.a u.p.l.length u.p.cap, .int .i64 u.p.fr, .int .i64 u.p.b, .int .i64 u.sn, .int .i64 u.x.q, .int .i64 u.x.s, .slice u.x.a u.x.l.length u.x.cap, .int .i64 u.x.fr, .int .i64 u.x.b] 52))
            have OO := (O2.below D).below (bel1 (.cells #[.string u.nm, .int .i64 u.n, .int .i64 u.p.q, .int .i64 u.p.s, .slice u.p.a u.p.l.length u.p.cap, .int .i64 u.p.fr, .int .i64 u.p.b, .int .i64 u.sn, .int .i64 u.x.q, .int .i64 u.x.s, .slice u.x.a u.x.l.length u.x.cap, .int .i64 u.x.fr, .int .i64 u.x.b] 52))
            have yb : (wc.alloc (.cells #[.string u.nm, .int .i64 u.n, .int .i64 u.p.q, .int .i64 u.p.s, .slice u.p.a u.p.l.length u.p.cap, .int .i64 u.p.fr, .int .i64 u.p.b, .int .i64 u.sn, .int .i64 u.x.q, .int .i64 u.x.s, .slice u.x.a u.x.l.length u.x.cap, .int .i64 u.x.fr, .int .i64 u.x.b] 52)).cell? ⟨w.heap.size + 1, 1, none⟩ = some (.slice a1 us.length c1) := CC.bk.c 1
            refine hK _ _ ?_
            clear hK K
            refine wpAny_ready (rs := [5]) (by kernel_rfl) (by simp) ?_
            refine AllReady.cons rfl (fun K hK => ?_) ?_
            · go_simp
              refine hK _ _ ?_
              clear hK K
              refine wpAny_ready (rs := [8]) (by kernel_rfl) (by simp) ?_
              refine AllReady.cons rfl (fun K hK => ?_) ?_
              · have zc := CC.bk.lt
                rw [World.size_alloc] at zc
                refine wp_append_own _ (.tmp 31) (.tmp 33) 27 rfl (w.heap.size + 1 + 1) 52 i0 (.agg #[.string ⟨#[]⟩, .int .i64 0, .int .i64 0, .int .i64 0, .slice none 0 0, .int .i64 0, .int .i64 0, .int .i64 0, .int .i64 0, .int .i64 0, .slice none 0 0, .int .i64 0, .int .i64 0]) 13 144 Tryz.underlying27 hi hz0 hz1 hz2 rfl (by decide) (.slice a1 us.length c1) us.length (hdCells us) rfl CC.own.row ⟨wc.drew.heap.size, 0, none⟩ 1 1 u.cl rfl rfl (cl_newL wc.drew u _) (cl_one u) (by unfold maxLen; omega) (by omega) (by simp; omega) ?_
                intro v9 w9 hown9 hgrow9 hnil9
                obtain ⟨a9, c9', rfl⟩ := own_slice hown9
                obtain ⟨g0, g2⟩ := CC.grow hgrow9
                have z0 : w9.cell? ⟨w.heap.size + 1, 0, none⟩ = some (.int .i64 la) := g2.c 0
                have z1 : w9.cell? ⟨w.heap.size + 1, 1, none⟩ = some (.slice a1 us.length c1) := g2.c 1
                have zf := g2.f
                refine hK _ _ ?_
                clear hK K
                refine wpAny_take (i := 9) (v := .pointer (some ⟨w.heap.size + 1, 0, none⟩)) rfl (by kernel_rfl) (by kernel_rfl) (by kernel_rfl) (fun _ _ _ h => h) (Or.inl ⟨by rfl, fun W => by go_simp⟩) ?_
                refine wpAny_take (i := 10) (v := .pointer (some ⟨w.heap.size + 1, 0, none⟩)) rfl (by kernel_rfl) (by kernel_rfl) (by kernel_rfl) (fun _ _ _ h => h) (Or.inl ⟨by rfl, fun W => by go_simp⟩) ?_
                refine wpAny_take (i := 11) (v := .pointer (some ⟨w.heap.size + 1, 1, none⟩)) rfl (by kernel_rfl) (by kernel_rfl) (by kernel_rfl) (fun _ _ _ h => h) (Or.inl ⟨by rfl, fun W => by go_simp⟩) ?_
                refine wpAny_ready (rs := [12]) (by kernel_rfl) (by simp) ?_
                refine AllReady.cons rfl (fun K hK => ?_) ?_
                · go_simp
                  refine hK _ _ ?_
                  clear hK K
                  refine wpAny_done (by kernel_rfl) ?_ _
                  go_wp2
                  go_roundw
                  case rel => exact hE _ _ _ _ CC OO hown9 hgrow9
                  case measure => simp [intOf]; omega
                exact AllReady.nil
              exact AllReady.nil
            exact AllReady.nil
          exact AllReady.nil
        exact AllReady.nil
    · obtain rfl : k = ts.length := by omega
      rw [List.take_length] at hK
      have HK : Hid (us.map Hd.key = ts.map Hd.key) := hK
      clear hK
      go_wp2
      go_ret
      exact ⟨v, us, rfl, HK.out, hC.bk, hC.own, hC.old⟩
end Go.Proofs.YtfmdejilhbankaaGreat

namespace Go.Proofs.YtfmdejilhbankaaGreat
open Go.RowKit

/-- Where the book and its row lie while it is turned. -/
structure HrW (w W : World) (K base : Nat) (la : Int) (v : Value) (us : List Hd) : Prop where
  old : Below w.heap.size w W
  k : w.heap.size ≤ K
  kb : K < base
  bk : Cbx W K #[.int .i64 la, v]
  own : BkOwn W base v us
theorem HrW.keep {w W W' : World} {K base : Nat} {la : Int} {v : Value} {us : List Hd} (h : HrW w W K base la v us) (hb : Below W.heap.size W W') : HrW w W' K base la v us :=
  ⟨h.old.trans (hb.mono h.old.size), h.k, h.kb, h.bk.keep hb, h.own.below hb⟩
end Go.Proofs.YtfmdejilhbankaaGreat

namespace Go.Proofs.YtfmdejilhbankaaGreat
open Go.RowKit

theorem at0_cells (us : List Hd) : hdCells (us.map Hd.at0) = hdCells us := by
  induction us with
  | nil => rfl
  | cons t us ih => rw [List.map_cons, hdCells_cons, hdCells_cons, ih, at0_cl]
theorem at0_filter (now : Int) (us : List Hd) : (us.map Hd.at0).filter (goesH now) = (us.filter (goesH now)).map Hd.at0 := by
  rw [List.filter_map]
  rfl
theorem at0_ne {W : World} {base base' g : Nat} {v : Value} {n : Nat} {xs : List Value} {p : Pt} (h : W.ownsRow base 52 13 v n xs) (hv : v.ownBlock = some g) (hp : PtOwn W base' p) : p.at0.l ≠ [] → p.at0.b0 ≠ g := fun hl hg => by
  rcases hp.2 with ⟨h1, h0⟩ | ⟨g', cap, cur, h1, _⟩
  · exact hl (List.eq_nil_of_length_eq_zero h0)
  · have e1 : p.at0.b0 = g' := by show p.sl.ownBlock.getD 0 = g'; rw [h1]; rfl
    have e2 : p.sl.ownBlock = some g' := by rw [h1]; rfl
    rw [e1] at hg
    subst hg
    exact rows_two h hp (by decide) g' hv e2
theorem goes_at0 {us : List Hd} (hsm : ∀ t ∈ us, t.p.l.length ≤ 1048576 ∧ t.x.l.length ≤ 1048576) : ∀ t ∈ us.map Hd.at0, t.p.l.length ≤ 1048576 ∧ t.x.l.length ≤ 1048576 := fun t ht => by
  obtain ⟨u, hu, rfl⟩ := List.mem_map.1 ht
  exact hsm u hu

theorem HrW.past {w W W' : World} {K base g cap : Nat} {la now : Int} {us : List Hd} (h : HrW w W K base la (.slice (some ⟨g, 0, none⟩) us.length cap) us) (hg : W.grownBy W' (some g)) (row : W'.ownsRow base 52 13 (.slice (some ⟨g, 0, none⟩) (us.filter (goesH now)).length cap) (us.filter (goesH now)).length (hdCells (us.filter (goesH now)))) :
    HrW w (W'.setCell ⟨K, 1, none⟩ (.slice (some ⟨g, 0, none⟩) (us.filter (goesH now)).length cap)) K base la (.slice (some ⟨g, 0, none⟩) (us.filter (goesH now)).length cap) (us.filter (goesH now)) := by
  have hs : Spared [g] W W' := Spared.grown hg (by simp)
  have hgb : base ≤ g := owns_base h.own.row g rfl
  have hk := h.k
  have hkb := h.kb
  have sub : (us.filter (goesH now)).Sublist us := List.filter_sublist
  have keep : ∀ t ∈ us, HdOwn W' base t := fun t ht => (h.own.hd ht).spared hs (fun k hk hk' => (h.own.hd ht).row h.own.row k hk (by simp at hk'; subst hk'; rfl))
  have O : BkOwn W' base (.slice (some ⟨g, 0, none⟩) (us.filter (goesH now)).length cap) (us.filter (goesH now)) :=
    ⟨row, fun t ht => ⟨(keep t (sub.subset ht)).p, (keep t (sub.subset ht)).x⟩, fun t ht => h.own.inn t (sub.subset ht), h.own.two.sublist sub⟩
  refine ⟨?_, hk, hkb, ?_, ?_⟩
  · exact (hs.toBelow h.old h.old.size (fun k hk' => by simp at hk'; omega)).setCell (by show _ ≤ K; omega) _
  · exact bx_set (h.bk.spared hs (by simp; omega)) 1 _
  · exact O.spared (S := [K]) (Spared.grown (grown_set _ _ _) (by simp)) (fun k hk' hk'' => by simp at hk''; have := (O.lt k hk').1; omega)
theorem HrW.same {w W : World} {K base : Nat} {la : Int} {v : Value} {us : List Hd} (h : HrW w W K base la v us) : HrW w (W.setCell ⟨K, 1, none⟩ v) K base la v us := by
  have hk := h.k
  have hkb := h.kb
  refine ⟨h.old.setCell (by show _ ≤ K; omega) _, hk, hkb, bx_set h.bk 1 _, ?_⟩
  exact h.own.spared (S := [K]) (Spared.grown (grown_set _ _ _) (by simp)) (fun k hk' hk'' => by simp at hk''; have := (h.own.lt k hk').1; omega)

theorem delNil_any (hI : SpansSaid) (now : Int) (B : Nat) (w : World) (hnow : -9223372036854775808 ≤ now) (hB : B < w.heap.size) (hc : w.cell? ⟨B, 0, none⟩ = some (.int .i64 now)) :
    Calls Tryz.prog 69 #[.slice none 0 0, .func (.func 70) #[] #[.pointer (some ⟨B, 0, none⟩)]] w fun e w' => e = .returned (.slice none 0 0) ∧ Below w.heap.size w w' := by
  have hs : HdsAt w none 0 0 [] := ⟨fun h => absurd rfl h, fun h => absurd rfl h, fun i t hi => by simp at hi, fun t ht => by simp at ht⟩
  go_enter Tryz.func69, Tryz.ntmps69
  go_wp2_with fail
  refine (idxPast_any hI none 0 0 0 [] now B _ hnow (by simp) (by simp) hs hB hc).mono ?_
  rintro e w1 ⟨p, rfl, hp, hb1⟩
  obtain rfl : p = -1 := by
    rcases hp with ⟨h, _⟩ | ⟨k, _, hk, _⟩
    · exact h
    · simp at hk
  go_wp2
  go_ret
  exact ⟨rfl, hb1⟩

set_option maxRecDepth 20000 in
set_option maxHeartbeats 2000000 in
theorem forgetPast_any (hI : SpansSaid) (w W : World) (K base : Nat) (la now : Int) (v : Value) (us : List Hd) (hnow : -9223372036854775808 ≤ now) (hl : us.length ≤ 1048576) (hsm : ∀ t ∈ us, t.p.l.length ≤ 1048576 ∧ t.x.l.length ≤ 1048576) (h : HrW w W K base la v us) :
    Calls Tryz.prog 45 #[.pointer (some ⟨K, 0, none⟩), .int .i64 now] W fun e w' => e = .returned (.tuple #[]) ∧ ∃ v' : Value, HrW w w' K base la v' (us.filter (goesH now)) := by
  have h0 := h.keep (bel1 (w := W) (.cells #[.int .i64 now] 3))
  have X0 : (W.alloc (.cells #[.int .i64 now] 3)).cell? ⟨W.heap.size, 0, none⟩ = some (.int .i64 now) := by simp [go_sem]
  have x0 : (W.alloc (.cells #[.int .i64 now] 3)).cell? ⟨K, 0, none⟩ = some (.int .i64 la) := h0.bk.c 0
  have hz : (W.alloc (.cells #[.int .i64 now] 3)).heap.size = W.heap.size + 1 := by simp
  rcases h0.own.row.2 with ⟨hv, hu0⟩ | ⟨g, cap, cur, hv, _⟩
  · have hun : us = [] := List.eq_nil_of_length_eq_zero hu0
    subst hun
    subst hv
    have x1 : (W.alloc (.cells #[.int .i64 now] 3)).cell? ⟨K, 1, none⟩ = some (.slice none 0 0) := h0.bk.c 1
    go_enter Tryz.func45, Tryz.ntmps45
    go_wp2_with fail
    refine (delNil_any hI now W.heap.size _ hnow (by omega) X0).mono ?_
    rintro e w1 ⟨rfl, hb1⟩
    have h1 := h0.keep hb1
    have y0 : w1.cell? ⟨K, 0, none⟩ = some (.int .i64 la) := h1.bk.c 0
    have y1 : w1.cell? ⟨K, 1, none⟩ = some (.slice none 0 0) := h1.bk.c 1
    have yf := h1.bk.f
    go_wp2
    first | (go_ret; exact ⟨rfl, _, h1.same⟩) | (refine bodyPost_end (v := .tuple #[]) (by simp [results, Tryz.results45, go_sem]) rfl ⟨rfl, _, h1.same⟩)
  · subst hv
    have x1 : (W.alloc (.cells #[.int .i64 now] 3)).cell? ⟨K, 1, none⟩ = some (.slice (some ⟨g, 0, none⟩) us.length cap) := h0.bk.c 1
    have hgl := (h0.own.row.lt g rfl)
    have hgW := (h.own.row.lt g rfl)
    have R0 : (W.alloc (.cells #[.int .i64 now] 3)).ownsRow base 52 13 (.slice (some ⟨g, 0, none⟩) (us.map Hd.at0).length cap) (us.map Hd.at0).length (hdCells (us.map Hd.at0)) := by
      rw [at0_cells, List.length_map]
      exact h0.own.row
    have hat : ∀ t ∈ us.map Hd.at0, HdAt (W.alloc (.cells #[.int .i64 now] 3)) t ∧ (t.p.l ≠ [] → t.p.b0 ≠ g) ∧ (t.x.l ≠ [] → t.x.b0 ≠ g) := fun t ht => by
      obtain ⟨u, hu, rfl⟩ := List.mem_map.1 ht
      exact ⟨⟨(h0.own.each u hu).1.at_, (h0.own.each u hu).2.at_⟩, at0_ne h0.own.row rfl (h0.own.each u hu).1, at0_ne h0.own.row rfl (h0.own.each u hu).2⟩
    have hD := delPast_any hI g cap base (us.map Hd.at0) now W.heap.size _ hnow (by rw [List.length_map]; exact hl) (goes_at0 hsm) R0 hat (by omega) (by omega) X0
    rw [at0_filter, at0_cells, List.length_map, List.length_map] at hD
    have HK : Hid (K < base) := h.kb
    clear hat R0
    go_enter Tryz.func45, Tryz.ntmps45
    go_wp2_with fail
    refine hD.mono ?_
    rintro e w1 ⟨rfl, row1, g1⟩
    have h1 := h0.past g1 row1
    have K1 := h0.bk.spared (Spared.grown g1 (S := [g]) (by simp)) (by have := HK.out; have := hgl.1; simp; omega)
    have y0 : w1.cell? ⟨K, 0, none⟩ = some (.int .i64 la) := K1.c 0
    have y1 : w1.cell? ⟨K, 1, none⟩ = some (.slice (some ⟨g, 0, none⟩) us.length cap) := K1.c 1
    have yf := K1.f
    go_wp2
    first | (go_ret; exact ⟨rfl, _, h1⟩) | (refine bodyPost_end (v := .tuple #[]) (by simp [results, Tryz.results45, go_sem]) rfl ⟨rfl, _, h1⟩)

set_option maxRecDepth 20000 in
set_option maxHeartbeats 2000000 in
theorem linkPastI_any (hI : SpansSaid) (la now : Int) (a : Option Addr) (b o cap : Nat) (ts : List Hd) (w : World) (hnow : -9223372036854775808 ≤ now) (hl : ts.length ≤ 1048576) (hsm : ∀ t ∈ ts, t.p.l.length ≤ 1048576 ∧ t.x.l.length ≤ 1048576) (hput : ∀ t ∈ ts, t.p.a = some ⟨t.p.b0, t.p.o, none⟩ ∧ t.x.a = some ⟨t.x.b0, t.x.o, none⟩) (hs : HdsAt w a b o ts) :
    Calls Tryz.prog 17 #[.agg #[.int .i64 la, .slice a ts.length cap], .int .i64 now] w
      fun e w' => ∃ (v : Value) (us : List Hd), e = .returned (.agg #[.int .i64 la, v]) ∧ us.map Hd.key = (ts.map Hd.key).filter (goesK now) ∧ BkOwn w' w.heap.size v us ∧ Below w.heap.size w w' := by
  have HPUT : Hid (∀ t ∈ ts, t.p.a = some ⟨t.p.b0, t.p.o, none⟩ ∧ t.x.a = some ⟨t.x.b0, t.x.o, none⟩) := hput
  clear hput
  obtain ⟨W0, hW0⟩ : ∃ W0, (w.alloc (.cells #[.int .i64 la, .slice a ts.length cap] 29)).alloc (.cells #[.int .i64 0, .slice none 0 0] 29) = W0 := ⟨_, rfl⟩
  have B0 : Below w.heap.size w W0 := by rw [← hW0]; exact bel2 _ _
  have A0 : Cbx W0 w.heap.size #[.int .i64 la, .slice a ts.length cap] := by rw [← hW0]; exact (Cbx.new w #[.int .i64 la, .slice a ts.length cap] 29).keep (bel1 _)
  have R0 : Cbx W0 (w.heap.size + 1) #[.int .i64 0, .slice none 0 0] := by
    rw [← hW0]
    have h := Cbx.new (w.alloc (.cells #[.int .i64 la, .slice a ts.length cap] 29)) #[.int .i64 0, .slice none 0 0] 29
    rwa [World.size_alloc] at h
  have x0 : W0.cell? ⟨w.heap.size, 0, none⟩ = some (.int .i64 la) := A0.c 0
  have x1 : W0.cell? ⟨w.heap.size, 1, none⟩ = some (.slice a ts.length cap) := A0.c 1
  have zR := R0.lt
  go_enter Tryz.func17, Tryz.ntmps17
  go_wp2_with fail
  refine (copyBI_any la a b o cap ts _ hl hsm HPUT.out (hs.below B0)).mono ?_
  rintro e w1 ⟨v1, us, rfl, hk, X1, O1, hb1⟩
  have HK : Hid (us.map Hd.key = ts.map Hd.key) := hk
  have R1 := R0.keep hb1
  have H1 : HrW W0 w1 (W0.heap.size + 1) (W0.heap.size + 1 + 1) la v1 us := ⟨hb1, by omega, by omega, X1, O1⟩
  have hue : us.length ≤ 1048576 := by have := len_keys hk; omega
  have hus := small_keys hk hsm
  clear hW0 x0 x1 hk A0
  go_wp2_with fail
  refine (forgetPast_any hI W0 w1 _ _ la now v1 us hnow hue hus H1).mono ?_
  rintro e w3 ⟨rfl, v3, H3⟩
  have HK3 : Hid ((us.filter (goesH now)).map Hd.key = (ts.map Hd.key).filter (goesK now)) := by
    show _ = _
    rw [goes_filter HK.out, List.filter_map]
    rfl
  obtain ⟨a3, c3, rfl⟩ := own_slice H3.own.row
  have R3 := R0.keep H3.old
  have y0 : w3.cell? ⟨W0.heap.size + 1, 0, none⟩ = some (.int .i64 la) := H3.bk.c 0
  have y1 : w3.cell? ⟨W0.heap.size + 1, 1, none⟩ = some (.slice a3 (us.filter (goesH now)).length c3) := H3.bk.c 1
  have r0 : w3.cell? ⟨w.heap.size + 1, 0, none⟩ = some (.int .i64 0) := R3.c 0
  have r1 : w3.cell? ⟨w.heap.size + 1, 1, none⟩ = some (.slice none 0 0) := R3.c 1
  have rf := R3.f
  have F1 : Hid (BkOwn ((w3.setCell ⟨w.heap.size + 1, 0, none⟩ (.int .i64 la)).setCell ⟨w.heap.size + 1, 1, none⟩ (.slice a3 (us.filter (goesH now)).length c3)) w.heap.size (.slice a3 (us.filter (goesH now)).length c3) (us.filter (goesH now)) ∧ Below w.heap.size w ((w3.setCell ⟨w.heap.size + 1, 0, none⟩ (.int .i64 la)).setCell ⟨w.heap.size + 1, 1, none⟩ (.slice a3 (us.filter (goesH now)).length c3))) := by
    refine ⟨?_, ?_⟩
    · have hlt := H3.own.lt
      refine ((H3.own.spared (S := [w.heap.size + 1]) (Spared.trans (Spared.grown (grown_set _ _ _) (by simp)) (Spared.grown (grown_set _ _ _) (by simp))) (fun k hk hk' => ?_))).lower (by omega)
      simp at hk'
      have := (hlt k hk).1
      omega
    · iterate 2 (refine Below.setCell ?_ (by simp) _)
      exact B0.trans (H3.old.mono B0.size)
  clear H1 O1 X1 hb1
  go_wp2
  refine bodyPost_ret (v := .agg #[.int .i64 la, .slice a3 (us.filter (goesH now)).length c3]) (by simp [results, Tryz.results17, go_sem, *]) rfl ⟨_, us.filter (goesH now), rfl, HK3.out, F1.out.1, F1.out.2⟩
end Go.Proofs.YtfmdejilhbankaaGreat

namespace Go.Proofs.YtfmdejilhbankaaGreat
open Go.ChangeShapes Go.WideShapes Go.ChangeAt Go.RowKit

theorem okWide_intR {P : Program} {w : World} {r : Reach} {base : Nat} {t : TypeId} {v : Value} (ht : P.underlying t = some (.int .i64)) (h : Value.okWide P w r base t v) : ∃ n, v = .int .i64 n ∧ -9223372036854775808 ≤ n := by
  obtain ⟨n, rfl⟩ := okWide_int ht h
  refine ⟨n, rfl, ?_⟩
  simp only [Value.okWide, ht, Cell.okWide, Cell.ok] at h
  have h2 := h.2
  simp [IntKind.has, IntKind.min, IntKind.max, IntKind.bits] at h2
  omega

theorem totK_filter (f : HKey → Bool) : ∀ ks : List HKey, totK (ks.filter f) ≤ totK ks
  | [] => Nat.le_refl _
  | k :: ks => by
    have ih := totK_filter f ks
    rw [List.filter_cons]
    split
    · simp only [totK]
      omega
    · simp only [totK]
      omega
theorem smallK_filter {f : HKey → Bool} {ks : List HKey} (h : smallK ks) : smallK (ks.filter f) := fun k hk => h k (List.mem_filter.1 hk).1
end Go.Proofs.YtfmdejilhbankaaGreat
