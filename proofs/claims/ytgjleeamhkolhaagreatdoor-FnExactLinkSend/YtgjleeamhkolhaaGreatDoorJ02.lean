/- Joined texts: SpanSaid, SpanImpl, AnyA, AnyB, AnyC, AnyG. -/
import Derived.Deep.RegionHeld3
import Derived.RangeFuncCalls
import Derived.OrdersIn
import Derived.Test.YtgjleeamhkolhaaGreatDoorSpanSpec
import Derived.Test.YtgjleeamhkolhaaGreatDoorJ01
import Derived.Test.YtgjleeamhkolhaaGreatDoorLast
import Derived.Test.YtgjleeamhkolhaaGreatDoorOwnMore
namespace Go.Proofs.YtgjleeamhkolhaaGreatDoor
open Go.RowKit

/-- The contract of the program's FlySpans. -/
def SpansSaid : Prop := ∀ (q s fr b : Int) (a : Option Addr) (b0 o cap : Nat) (l : List Stp) (w : World), l.length ≤ 1048576 → StepsAt w a b0 o l →
    Calls Tryz.prog 98 #[.agg #[.int .i64 q, .int .i64 s, .slice a l.length cap, .int .i64 fr, .int .i64 b]] w
      fun e w' => ∃ v, e = .returned (.tuple #[v, .bool (flyB q s fr b l)]) ∧ w'.ownsRow w.heap.size 152 2 v (flyL q s fr b l).length (spanCells (flyL q s fr b l)) ∧ Below w.heap.size w w'
end Go.Proofs.YtgjleeamhkolhaaGreatDoor

namespace Go.Proofs.YtgjleeamhkolhaaGreatDoor
open Go.RowKit

theorem box_grown {w wr w2 : World} {q s fr b : Int} {v : Value} {g : Nat} (h : BoxP w wr q s fr b v) (hg : wr.grownBy w2 (some g)) (hn : w.heap.size < g) : BoxP w w2 q s fr b v :=
  h.keep ((Below.refl _ _).grown hg h.lt (fun k e => by cases e; omega))

set_option maxRecDepth 20000 in
set_option maxHeartbeats 4000000 in
theorem spans_any (hW : WalkSaid) (hF : FollowSaid) : SpansSaid := by
  intro q s fr b a b0 o cap l w hl hs
  have hB0 := BoxP.new w q s fr b (.slice a l.length cap) 38
  cases hp : pathB q s fr b l with
  | false =>
    have e1 : flyB q s fr b l = false := by unfold flyB; rw [hp]; rfl
    have e2 : flyL q s fr b l = [] := by unfold flyL; rw [hp]; rfl
    rw [e1, e2]
    go_enter Tryz.func98, Tryz.ntmps98
    go_wp2_with fail
    refine (pathOk_any hF _ _ _ _ _ b0 o _ _ _ hl (hs.alloc _)).mono ?_
    rw [hp]
    rintro e w1 ⟨rfl, hb1⟩
    have hB1 := hB0.below hb1
    go_wp2
    go_ret2
    exact ⟨_, rfl, World.ownsRow_nil _ _ _ _, hB1.old⟩
  | true =>
    have e1 : flyB q s fr b l = fwdTo q s fr b l (l.length + 1) := by unfold flyB; rw [hp, span_fwd hp]; rfl
    have e2 : flyL q s fr b l = spansL q s fr b l := by unfold flyL; rw [hp]; rfl
    have kr := kind_range hp
    have hne : l ≠ [] := by have := path_len hp; intro e; subst e; simp at this
    have hfold := fwd_fold hp l.length (Nat.le_refl _)
    rw [e1, e2]
    go_enter Tryz.func98, Tryz.ntmps98
    go_wp2_with fail
    refine (pathOk_any hF _ _ _ _ _ b0 o _ _ _ hl (hs.alloc _)).mono ?_
    rw [hp]
    rintro e w1 ⟨rfl, hb1⟩
    have hB1 := hB0.below hb1
    have c0 := hB1.p0
    have c1 := hB1.p1
    have c2 := hB1.p2
    have c3 := hB1.p3
    have c4 := hB1.p4
    clear hb1 hB0
    go_wp2_with fail
    refine (winds_any _ _ _ _ _ b0 o _ _ _ hl (hs.below hB1.old hs.lt)).mono ?_
    rintro e w2 ⟨v, rfl, ho2, hb2⟩
    obtain ⟨g, scap, rfl, hg1, hg2⟩ := owns_some ho2 (by omega)
    have hB2 := hB1.below hb2
    have z1 := hB1.lt
    have z2 := hB2.lt
    clear c0 c1 c2 c3 c4 hb2 hB1
    have c0 := hB2.p0
    have c1 := hB2.p1
    have c2 := hB2.p2
    have c3 := hB2.p3
    have c4 := hB2.p4
    have hs2 := hs.below hB2.old hs.lt
    have hbw := hs.lt hne
    have hW1 := fun (W : World) (hW2 : Below w2.heap.size w2 W) (Bs : Nat) (hBs : w2.heap.size ≤ Bs ∧ Bs < W.heap.size) (hc : W.cell? ⟨Bs, 0, none⟩ = some (.slice a l.length cap)) =>
      walkF_any hW q s l g scap w1.heap.size Bs b0 o cap a (winL fr b l (l.length + 1)) W ⟨kr.1, by omega⟩ ⟨by omega, kr.2.2⟩ hl (win_good hp) (owns_below ho2 hW2) ⟨hBs.2, by omega⟩ hc (hs2.below hW2 hs2.lt) (fun _ => ⟨by have := hW2.size; omega, by omega⟩)
    have hal : Below w2.heap.size w2 (w2.drew.alloc (.cells #[.slice a l.length cap] 36)) := ((Below.refl w2.heap.size w2).drew).alloc (Nat.le_refl _) _
    have hsz : (w2.drew.alloc (.cells #[.slice a l.length cap] 36)).heap.size = w2.heap.size + 1 := World.size_alloc _ _
    have hcl : (w2.drew.alloc (.cells #[.slice a l.length cap] 36)).cell? ⟨w2.heap.size, 0, none⟩ = some (.slice a l.length cap) := (Boxed.new w2.drew 36 (.slice a l.length cap)).cell
    have HWK := hW1 _ hal w2.heap.size ⟨Nat.le_refl _, by omega⟩ hcl
    have HC : ∀ w4, (w2.drew.alloc (.cells #[.slice a l.length cap] 36)).grownBy w4 (some g) → ∀ j, w4.cell? ⟨w.heap.size, j, none⟩ = w2.cell? ⟨w.heap.size, j, none⟩ := fun w4 hg4 j =>
      (World.cell?_of_block (a := ⟨w.heap.size, j, none⟩) (hg4.block w.heap.size (by omega) (fun e => by cases e; omega))).trans (hal.cell (p := ⟨w.heap.size, j, none⟩) z2)
    clear hW1 hcl
    go_wp2
    go_region_held3 (fun w' => w'.cell? ⟨w.heap.size, 0, none⟩ = some (.int .i64 q) ∧ w'.cell? ⟨w.heap.size, 1, none⟩ = some (.int .i64 s) ∧ w'.cell? ⟨w.heap.size, 2, none⟩ = some (.slice a l.length cap) ∧ w'.cell? ⟨w.heap.size, 3, none⟩ = some (.int .i64 fr) ∧ w'.cell? ⟨w.heap.size, 4, none⟩ = some (.int .i64 b))
      (simp [go_sem, World.cell?_alloc_lt, *])
      (first
        | (go_at_call 124; refine (all_any _ _ _ _).mono ?_; rintro e w3 ⟨rfl, rfl⟩)
        | (go_at_call 123; refine HWK.mono ?_; rintro e w4 ⟨rfl, hg4, ho4⟩; have n0 := HC w4 hg4))
    have hB4 : BoxP w w4 q s fr b (.slice a l.length cap) := box_grown (hB2.below hal) hg4 (by omega)
    rw [hfold.1] at ho4
    clear c0 c1 c2 c3 c4 n0 HC HWK
    cases hf : fwdTo q s fr b l (l.length + 1) with
    | false =>
      have e3 : spansL q s fr b l = [] := by unfold spansL; rw [span_fwd hp, hf]; rfl
      go_wp2
      go_ret2
      exact ⟨_, by rw [hf]; rfl, by rw [e3]; exact World.ownsRow_nil _ _ _ _, hB4.old⟩
    | true =>
      have ho5 := ho4 hf
      rw [hfold.2 hf, mixL_all] at ho5
      have z4 := hB4.lt
      have zg : w2.heap.size + 1 ≤ w4.heap.size := by have := hg4.size; omega
      have hs4 : StepsAt w4 a b0 o l := hs.below hB4.old hs.lt
      have hbk := back_fold hp hf l.length (Nat.le_refl _)
      have HE : Hid (backL q s fr b l l.length l.length = spansL q s fr b l) := backL_all (by rw [span_fwd hp]; exact hf)
      clear ho4 hal hsz hg4 hB2 hs2
      have c0 := hB4.p0
      have c1 := hB4.p1
      have c2 := hB4.p2
      have c3 := hB4.p3
      have c4 := hB4.p4
      have hal : Below w4.heap.size w4 (w4.drew.alloc (.cells #[.slice a l.length cap] 36)) := ((Below.refl w4.heap.size w4).drew).alloc (Nat.le_refl _) _
      have hsz : (w4.drew.alloc (.cells #[.slice a l.length cap] 36)).heap.size = w4.heap.size + 1 := World.size_alloc _ _
      have hcl : (w4.drew.alloc (.cells #[.slice a l.length cap] 36)).cell? ⟨w4.heap.size, 0, none⟩ = some (.slice a l.length cap) := (Boxed.new w4.drew 36 (.slice a l.length cap)).cell
      have HWK := walkB_any hW q s l g scap w1.heap.size w4.heap.size b0 o cap a (fwdL q s fr b l (l.length + 1)) _ ⟨kr.1, by omega⟩ ⟨by omega, kr.2.2⟩ hl (fwd_good hp hf) (owns_below ho5 hal) ⟨by omega, by omega⟩ hcl (hs4.below hal hs4.lt) (fun _ => ⟨by omega, by omega⟩)
      rw [hbk] at HWK
      have HC : ∀ w5, (w4.drew.alloc (.cells #[.slice a l.length cap] 36)).grownBy w5 (some g) → ∀ j, w5.cell? ⟨w.heap.size, j, none⟩ = w4.cell? ⟨w.heap.size, j, none⟩ := fun w5 hg5 j =>
        (World.cell?_of_block (a := ⟨w.heap.size, j, none⟩) (hg5.block w.heap.size (by omega) (fun e => by cases e; omega))).trans (hal.cell (p := ⟨w.heap.size, j, none⟩) z4)
      clear hcl hbk
      go_wp2
      go_region_held3 (fun w' => w'.cell? ⟨w.heap.size, 0, none⟩ = some (.int .i64 q) ∧ w'.cell? ⟨w.heap.size, 1, none⟩ = some (.int .i64 s) ∧ w'.cell? ⟨w.heap.size, 2, none⟩ = some (.slice a l.length cap) ∧ w'.cell? ⟨w.heap.size, 3, none⟩ = some (.int .i64 fr) ∧ w'.cell? ⟨w.heap.size, 4, none⟩ = some (.int .i64 b))
        (simp [go_sem, World.cell?_alloc_lt, *])
        (first
          | (go_at_call 126; refine (backw_any _ _ _ _).mono ?_; rintro e w5 ⟨rfl, rfl⟩)
          | (go_at_call 123; refine HWK.mono ?_; rintro e w6 ⟨rfl, hg6, ho6⟩; have n0 := HC w6 hg6))
      have ho7 := ho6 trivial
      have hB6 : BoxP w w6 q s fr b (.slice a l.length cap) := box_grown (hB4.below hal) hg6 (by omega)
      clear c0 c1 c2 c3 c4 n0 HC HWK ho6
      go_wp2
      go_ret2
      refine ⟨_, by rw [hf]; rfl, ?_, hB6.old⟩
      have hlen : (spansL q s fr b l).length = l.length + 1 := by rw [← HE.out, backL_length]
      rw [hlen, ← HE.out]
      exact ⟨ho7.1, ho7.2.imp id fun ⟨g, cap, cur, h1, h2, h3⟩ => ⟨g, cap, cur, h1, by omega, h3⟩⟩
end Go.Proofs.YtgjleeamhkolhaaGreatDoor

namespace Go.Proofs.YtgjleeamhkolhaaGreatDoor
open Go.RowKit

section
variable {P : Program} {ops : Array Oper} {md : Region.Mode} {Q : Exit → Act → World → Prop} {w0 : World} {A : Nat → Bool} {tl : Nat} {Z : Array Value} {T : TypeId}

/-- A class of worlds in which all lies that lay, closed under what lays new blocks alone. -/
def Clsd (w0 : World) (X : World → Prop) : Prop := (∀ w, X w → Below w0.heap.size w0 w) ∧ ∀ w w', X w → Below w.heap.size w w' → X w'
/-- In each such class the operation leaves v. -/
def YA (P : Program) (ops : Array Oper) (w0 : World) (o : Oper) (v : Value) (a : Act) : Prop := ∀ X, Clsd w0 X → YieldsIn P ops X o v a
/-- The worlds in which these blocks have been laid. -/
structure CS (w0 : World) (Z : Array Value) (T : TypeId) (σ : List (Nat × Nat)) (w : World) : Prop where
  old : Below w0.heap.size w0 w
  at_ : ∀ p ∈ σ, w0.heap.size ≤ p.2 ∧ w.heap[p.2]? = some (.cells Z T (0, 0))
theorem CS.closed (σ : List (Nat × Nat)) : Clsd w0 (CS w0 Z T σ) :=
  ⟨fun _ h => h.old, fun _ _ h hb => ⟨h.old.trans (hb.mono h.old.size), fun p hp => ⟨(h.at_ p hp).1, (hb.block _ (lt_of_block (h.at_ p hp).2)).trans (h.at_ p hp).2⟩⟩⟩
theorem CS.alloc {σ : List (Nat × Nat)} {w : World} (h : CS w0 Z T σ w) (i : Nat) : CS w0 Z T ((i, w.heap.size) :: σ) (w.alloc (.cells Z T)) where
  old := h.old.alloc h.old.size _
  at_ p hp := by
    rcases List.mem_cons.1 hp with rfl | hp
    · exact ⟨h.old.size, heap_alloc_new w _⟩
    · exact ⟨(h.at_ p hp).1, (Below.heap_alloc w _ _ (lt_of_block (h.at_ p hp).2)).trans (h.at_ p hp).2⟩

/-- Whatever order is picked from here on. -/
def anyA (P : Program) (md : Region.Mode) (ops : Array Oper) (Q : Exit → Act → World → Prop) (w0 : World) (A : Nat → Bool) (tl : Nat) (Z : Array Value) (T : TypeId) : Nat → Array Bool → List (Nat × Nat) → Act → Prop
  | 0, _, _, _ => False
  | fuel + 1, listed, σ, a => Region.ready md ops listed ≠ [] ∧ ∀ i ∈ Region.ready md ops listed,
      (i = tl → ∀ w, CS w0 Z T σ w → wpOp P ops Q i (wpAny P md ops Q fuel (listed.setIfInBounds i true)) a w) ∧
      (i ≠ tl → A i = true → ∀ o B, ops[i]? = some o → w0.heap.size ≤ B → B ∉ σ.map (·.2) → anyA P md ops Q w0 A tl Z T fuel (listed.setIfInBounds i true) ((i, B) :: σ) (a.put o.dst (.pointer (some ⟨B, 0, none⟩)))) ∧
      (i ≠ tl → A i = false → ∃ o v, ops[i]? = some o ∧ YA P ops w0 o v a ∧ anyA P md ops Q w0 A tl Z T fuel (listed.setIfInBounds i true) σ (a.put o.dst v))

theorem any_of_A (hA : ∀ i o, A i = true → ops[i]? = some o → o.guard = none ∧ ∀ ρ w, (execOp ρ o).run P w = .ok (.value (.pointer (some ⟨w.heap.size, 0, none⟩))) (w.alloc (.cells Z T))) :
    ∀ (fuel : Nat) (listed : Array Bool) (σ : List (Nat × Nat)) (a : Act) (w : World), CS w0 Z T σ w → anyA P md ops Q w0 A tl Z T fuel listed σ a → wpAny P md ops Q fuel listed a w
  | 0, _, _, _, _, _, h => h.elim
  | fuel + 1, listed, σ, a, w, hw, h => ⟨fun e => absurd e h.1, fun i hi => by
      obtain ⟨h1, h2, h3⟩ := h.2 i hi
      by_cases e : i = tl
      · exact h1 e w hw
      · cases ha : A i with
        | true =>
          obtain ⟨_, o, ho, _⟩ := mem_ready.1 hi
          obtain ⟨hg, hr⟩ := hA i o ha ho
          have hk := h2 e ha o w.heap.size ho hw.old.size (fun hm => by
            obtain ⟨p, hp, hpe⟩ := List.mem_map.1 hm
            have := lt_of_block (hw.at_ p hp).2
            omega)
          refine wpOp_step ho (fun K' hK => ?_)
          rw [if_pos (by simp [Region.wanted, hg])]
          unfold Oper.wp
          rw [hr]
          exact hK _ _ (any_of_A hA fuel _ _ _ _ (hw.alloc i) hk)
        | false =>
          obtain ⟨o, v, ho, hy, hk⟩ := h3 e ha
          exact wpOp_of_qOp (C := CS w0 Z T σ) hw (fun a' w' hw' hk' => any_of_A hA fuel _ σ a' w' hw' hk') ((hy _ (CS.closed σ)).qOp ho hk)⟩

theorem YA.put {o oj : Oper} {v u : Value} {a : Act} (h : YA P ops w0 o v a) (hs : ∀ cs b, o.op ≠ .select cs b) (hap : ∀ d, oj.dst = some d → d ∉ o.looksAt ops) : YA P ops w0 o v (a.put oj.dst u) := fun X hX =>
  (h X hX).of_same (execOp_put o hs a oj.dst u hap) (wanted_put o a oj.dst u hap)
theorem YA.unput {o oi : Oper} {v u : Value} {a : Act} (h : YA P ops w0 o v (a.put oi.dst u)) (hs : ∀ cs b, o.op ≠ .select cs b) (hap : ∀ d, oi.dst = some d → d ∉ o.looksAt ops) : YA P ops w0 o v a := fun X hX =>
  (h X hX).of_same (execOp_put o hs a oi.dst u hap).symm (wanted_put o a oi.dst u hap).symm

/-- An operation that yields its value in each class, may come up now, and is apart from what does not wait for it, may be taken first. -/
theorem anyA_take {i x : Nat} {oi : Oper} {v : Value} (hi : ops[i]? = some oi) (hia : A i = false) (hit : i ≠ tl) (hsel : ∀ (j : Nat) (o : Oper) cs b, ops[j]? = some o → o.op ≠ .select cs b)
    (hx : x = i ∨ ∃ ox, ops[x]? = some ox ∧ ∃ e ∈ ox.after, Region.binds md e = true ∧ e.on = i)
    (hwait : ∀ oL, ops[tl]? = some oL → ∃ e ∈ oL.after, Region.binds md e = true ∧ e.on = x) :
    ∀ (fuel : Nat) (listed : Array Bool) (σ : List (Nat × Nat)) (a : Act), listed.getD x true = false →
      (∀ j oj, ops[j]? = some oj → j ≠ i → listed.getD j true = false → (∀ e ∈ oj.after, Region.binds md e = true → e.on ≠ i) → oi.apart ops oj = true) →
      i ∈ Region.ready md ops listed → YA P ops w0 oi v a →
      anyA P md ops Q w0 A tl Z T fuel (listed.setIfInBounds i true) σ (a.put oi.dst v) → anyA P md ops Q w0 A tl Z T (fuel + 1) listed σ a := by
  intro fuel
  induction fuel with
  | zero => intro _ _ _ _ _ _ _ H; exact H.elim
  | succ fuel ih =>
    intro listed σ a hxu hfree hr hy H
    have hun : listed.getD i true = false := (mem_ready.1 hr).1
    have clash : listed.getD i false = true → False := fun h1 => by
      rcases Nat.lt_or_ge i listed.size with h' | h'
      · simp [h'] at hun h1; rw [hun] at h1; cases h1
      · simp [Array.getElem?_eq_none h'] at h1
    have clashx : listed.getD x false = true → False := fun h1 => by
      rcases Nat.lt_or_ge x listed.size with h' | h'
      · simp [h'] at hxu h1; rw [hxu] at h1; cases h1
      · simp [Array.getElem?_eq_none h'] at h1
    refine ⟨fun e => (by rw [e] at hr; cases hr), fun j hj => ?_⟩
    obtain ⟨hjun, oj, hoj, hall⟩ := mem_ready.1 hj
    have hjl : j ≠ tl := fun e => by
      subst e
      obtain ⟨y, hy', hb, ho⟩ := hwait oj hoj
      exact clashx (by have := hall y hy' hb; rwa [ho] at this)
    refine ⟨fun e => absurd e hjl, ?_⟩
    by_cases hji : j = i
    · subst hji
      exact ⟨fun _ ha => absurd (hia.symm.trans ha) (by simp), fun _ _ => ⟨oi, v, hi, hy, H⟩⟩
    · have hnot : ∀ e ∈ oj.after, Region.binds md e = true → e.on ≠ i := fun e he hb heq => clash (by have := hall e he hb; rwa [heq] at this)
      obtain ⟨a1, a2, a3⟩ := Oper.apart_spec (hfree j oj hoj hji hjun hnot)
      have hjx : j ≠ x := fun e => by
        rcases hx with rfl | ⟨ox, hox, y, hy', hb, ho⟩
        · exact hji e
        · subst e
          rw [hoj] at hox
          cases hox
          exact hnot y hy' hb ho
      obtain ⟨_, h2, h3⟩ := H.2 j (ready_mono hj hji)
      have hxu' : (listed.setIfInBounds j true).getD x true = false := by rw [getD_set_ne true hjx]; exact hxu
      have hfree' : ∀ k ok, ops[k]? = some ok → k ≠ i → (listed.setIfInBounds j true).getD k true = false → (∀ e ∈ ok.after, Region.binds md e = true → e.on ≠ i) → oi.apart ops ok = true := fun k ok hk hki hku hkn => hfree k ok hk hki (by
        by_cases hjk : j = k
        · subst hjk; exact hjun
        · rw [getD_set_ne true hjk] at hku; exact hku) hkn
      refine ⟨fun _ ha o B ho hB hBσ => ?_, fun _ ha => ?_⟩
      · rw [hoj] at ho
        cases ho
        have := h2 hjl ha oj B hoj hB hBσ
        rw [Array.setIfInBounds_comm _ _ (Ne.symm hji), Act.put_comm a v _ a2] at this
        exact ih _ _ _ hxu' hfree' (ready_mono hr (Ne.symm hji)) (hy.put (fun cs b => hsel i oi cs b hi) a3) this
      · obtain ⟨o, u, ho, hyj, hk⟩ := h3 hjl ha
        rw [hoj] at ho
        cases ho
        rw [Array.setIfInBounds_comm _ _ (Ne.symm hji), Act.put_comm a v _ a2] at hk
        exact ⟨oj, u, hoj, hyj.unput (fun cs b => hsel j oj cs b hoj) a1, ih _ _ _ hxu' hfree' (ready_mono hr (Ne.symm hji)) (hy.put (fun cs b => hsel i oi cs b hi) a3) hk⟩

/-- The lexical walk, with values that hold in each class. -/
def wpQA (P : Program) (ops : Array Oper) (w0 : World) (Fin : Act → Prop) : List Oper → Act → Prop
  | [], a => Fin a
  | o :: rest, a => ∃ v, YA P ops w0 o v a ∧ wpQA P ops w0 Fin rest (a.put o.dst v)
/-- What is listed when n more are. -/
def listTo (listed : Array Bool) (k : Nat) : Nat → Array Bool
  | 0 => listed
  | n + 1 => listTo (listed.setIfInBounds k true) (k + 1) n
/-- The Bool over a region. -/
def lexA (md : Region.Mode) (ops : Array Oper) (A : Nat → Bool) (tl : Nat) : Nat → Nat → Array Bool → Bool
  | 0, _, _ => true
  | n + 1, k, listed => (Region.ready md ops listed).contains k && Region.free md ops listed k && (!(A k)) && (k != tl) && (waitsAt md ops tl k listed).isSome && lexA md ops A tl n (k + 1) (listed.setIfInBounds k true)

theorem anyA_lex (hs : Region.noSelect ops = true) (m : Nat) : ∀ (l : List Oper) (k : Nat) (listed : Array Bool) (a : Act), (∀ j, j < l.length → l[j]? = ops[k + j]?) → lexA md ops A tl l.length k listed = true →
    wpQA P ops w0 (anyA P md ops Q w0 A tl Z T m (listTo listed k l.length) []) l a → anyA P md ops Q w0 A tl Z T (l.length + m) listed [] a
  | [], _, _, a, _, _, h => by simpa [wpQA, listTo] using h
  | o :: l, k, listed, a, hl, hB, h => by
    have h0 : ops[k]? = some o := by simpa using (hl 0 (by simp)).symm
    simp only [List.length_cons, lexA, Bool.and_eq_true] at hB
    obtain ⟨⟨⟨⟨⟨hr, hf⟩, hk1⟩, hk2⟩, hwt⟩, hB'⟩ := hB
    obtain ⟨x, hxw⟩ := Option.isSome_iff_exists.1 hwt
    have hxp := List.find?_some hxw
    simp only [Bool.and_eq_true, Bool.not_eq_true'] at hxp
    obtain ⟨⟨hx1, hx2⟩, hx3⟩ := hxp
    obtain ⟨v, hy, hK⟩ := h
    have ih := anyA_lex hs m l (k + 1) (listed.setIfInBounds k true) (a.put o.dst v) (fun j hj => by have := hl (j + 1) (by simp; omega); simpa [Nat.add_assoc, Nat.add_comm 1 j] using this) hB' hK
    have e : (o :: l).length + m = (l.length + m) + 1 := by simp; omega
    rw [e]
    refine anyA_take (x := x) h0 (by simpa using hk1) (by simpa using hk2) (Region.noSelect_spec hs) ?_ (fun oL hoL => ?_) (l.length + m) listed [] a hx1 (Region.free_spec h0 hf) (by simpa using hr) hy ih
    · simp only [Bool.or_eq_true, beq_iff_eq] at hx2
      rcases hx2 with h1 | h1
      · exact Or.inl h1
      · right
        cases hox : ops[x]? with
        | none => rw [hox] at h1; cases h1
        | some ox =>
          rw [hox] at h1
          simp only [List.any_eq_true, Bool.and_eq_true, beq_iff_eq] at h1
          obtain ⟨e, he, h2, h3⟩ := h1
          exact ⟨ox, rfl, e, by simpa using he, h2, h3⟩
    · rw [hoL] at hx3
      simp only [List.any_eq_true, Bool.and_eq_true, beq_iff_eq] at hx3
      obtain ⟨e, he, h2, h3⟩ := hx3
      exact ⟨e, by simpa using he, h2, h3⟩
end
end Go.Proofs.YtgjleeamhkolhaaGreatDoor

namespace Go.Proofs.YtgjleeamhkolhaaGreatDoor
open Go.RowKit

section
variable {P : Program} {ops : Array Oper} {md : Region.Mode} {Q : Exit → Act → World → Prop} {w0 : World} {A : Nat → Bool} {Z : Array Value} {T : TypeId}

theorem anyA_end (k : Nat) (oA oB : Oper) (listed : Array Bool) (a : Act) (hoA : ops[k]? = some oA) (hoB : ops[k + 1]? = some oB)
    (r0 : Region.ready md ops listed = [k, k + 1]) (r1 : Region.ready md ops (listed.setIfInBounds k true) = [k + 1]) (r2 : Region.ready md ops (listed.setIfInBounds (k + 1) true) = [k])
    (r3 : Region.ready md ops ((listed.setIfInBounds k true).setIfInBounds (k + 1) true) = [k + 2]) (r4 : Region.ready md ops (((listed.setIfInBounds k true).setIfInBounds (k + 1) true).setIfInBounds (k + 2) true) = [k + 3])
    (r5 : Region.ready md ops ((((listed.setIfInBounds k true).setIfInBounds (k + 1) true).setIfInBounds (k + 2) true).setIfInBounds (k + 3) true) = [])
    (hA1 : A k = true) (hA2 : A (k + 1) = true) (hdst : ∀ d, oA.dst = some d → oB.dst ≠ some d)
    (h : ∀ B1 B2 w, w0.heap.size ≤ B1 → w0.heap.size ≤ B2 → B1 ≠ B2 → Below w0.heap.size w0 w → w.heap[B1]? = some (.cells Z T (0, 0)) → w.heap[B2]? = some (.cells Z T (0, 0)) →
      wpOp P ops Q (k + 2) (fun a' w' => wpOp P ops Q (k + 3) (fun a'' w'' => Q .normal a'' w'') a' w') ((a.put oA.dst (.pointer (some ⟨B1, 0, none⟩))).put oB.dst (.pointer (some ⟨B2, 0, none⟩))) w) :
    anyA P md ops Q w0 A (k + 2) Z T 4 listed [] a := by
  have fin : ∀ B1 B2 w, w0.heap.size ≤ B1 → w0.heap.size ≤ B2 → B1 ≠ B2 → Below w0.heap.size w0 w → w.heap[B1]? = some (.cells Z T (0, 0)) → w.heap[B2]? = some (.cells Z T (0, 0)) →
      wpOp P ops Q (k + 2) (wpAny P md ops Q 1 (((listed.setIfInBounds k true).setIfInBounds (k + 1) true).setIfInBounds (k + 2) true)) ((a.put oA.dst (.pointer (some ⟨B1, 0, none⟩))).put oB.dst (.pointer (some ⟨B2, 0, none⟩))) w := by
    intro B1 B2 w h1 h2 h3 h4 h5 h6
    refine wpOp_mono (fun a' w' h' => ?_) (h B1 B2 w h1 h2 h3 h4 h5 h6)
    refine ⟨fun e => ?_, fun i hi => ?_⟩
    · rw [r4] at e
      cases e
    · rw [r4] at hi
      obtain rfl : i = k + 3 := by simpa using hi
      exact wpOp_mono (fun a'' w'' h'' => ⟨r5, h''⟩) h'
  refine ⟨by rw [r0]; simp, fun i hi => ?_⟩
  rw [r0] at hi
  rcases (show i = k ∨ i = k + 1 by simpa using hi) with rfl | rfl
  · refine ⟨fun e => by omega, fun _ _ o B ho hB _ => ?_, fun _ ha => absurd (hA1.symm.trans ha) (by simp)⟩
    rw [hoA] at ho
    cases ho
    refine ⟨by rw [r1]; simp, fun j hj => ?_⟩
    rw [r1] at hj
    obtain rfl : j = i + 1 := by simpa using hj
    refine ⟨fun e => by omega, fun _ _ o B' ho hB' hn => ?_, fun _ ha => absurd (hA2.symm.trans ha) (by simp)⟩
    rw [hoB] at ho
    cases ho
    have hne : B ≠ B' := fun e => hn (by simp [e])
    refine ⟨by rw [r3]; simp, fun m hm => ?_⟩
    rw [r3] at hm
    obtain rfl : m = i + 2 := by simpa using hm
    refine ⟨fun _ w hw => ?_, fun e => absurd rfl e, fun e => absurd rfl e⟩
    exact fin B B' w hB hB' hne hw.old (hw.at_ (i, B) (by simp)).2 (hw.at_ (i + 1, B') (by simp)).2
  · refine ⟨fun e => by omega, fun _ _ o B ho hB _ => ?_, fun _ ha => absurd (hA2.symm.trans ha) (by simp)⟩
    rw [hoB] at ho
    cases ho
    refine ⟨by rw [r2]; simp, fun j hj => ?_⟩
    rw [r2] at hj
    obtain rfl : j = k := by simpa using hj
    refine ⟨fun e => by omega, fun _ _ o B' ho hB' hn => ?_, fun _ ha => absurd (hA1.symm.trans ha) (by simp)⟩
    rw [hoA] at ho
    cases ho
    have hne : B' ≠ B := fun e => hn (by simp [e])
    have hcm : (listed.setIfInBounds (j + 1) true).setIfInBounds j true = (listed.setIfInBounds j true).setIfInBounds (j + 1) true := Array.setIfInBounds_comm _ _ (by omega)
    rw [hcm]
    refine ⟨by rw [r3]; simp, fun m hm => ?_⟩
    rw [r3] at hm
    obtain rfl : m = j + 2 := by simpa using hm
    refine ⟨fun _ w hw => ?_, fun e => absurd rfl e, fun e => absurd rfl e⟩
    rw [← Act.put_comm a _ _ hdst]
    exact fin B' B w hB' hB hne hw.old (hw.at_ (j, B') (by simp)).2 (hw.at_ (j + 1, B) (by simp)).2

theorem YA_of {o : Oper} {v : Value} {a : Act} (hg : o.guard = none) (h : ∀ W, Below w0.heap.size w0 W → (execOp a.eval o).run P W = .ok (.value v) W) : YA P ops w0 o v a := fun X hX =>
  .inl ⟨by simp [Region.wanted, hg], fun W hW => by unfold Oper.quietAt; rw [h W (hX.1 W hW)]; exact ⟨rfl, rfl⟩⟩
theorem YA_call {o : Oper} {v : Value} {a : Act} {f : FuncId} {args : Array Value} (hg : o.guard = none) (h : ∀ W, Below w0.heap.size w0 W → (execOp a.eval o).run P W = .ok (.enter f args) W)
    (hc : ∀ W, Calls P f args W fun e w' => e = .returned v ∧ Below W.heap.size W w') : YA P ops w0 o v a := fun X hX =>
  .inl ⟨by simp [Region.wanted, hg], fun W hW => by
    unfold Oper.quietAt
    rw [h W (hX.1 W hW)]
    exact ⟨rfl, (hc W).mono fun e w' ⟨h1, h2⟩ => ⟨h1, hX.2 W w' hW h2⟩⟩⟩

theorem wpQA_cons {F : Act → Prop} {o : Oper} {rest : List Oper} {a : Act} (v : Value) (h : YA P ops w0 o v a) (hr : wpQA P ops w0 F rest (a.put o.dst v)) : wpQA P ops w0 F (o :: rest) a := ⟨v, h, hr⟩
theorem wpQA_nil {F : Act → Prop} {a : Act} (h : F a) : wpQA P ops w0 F [] a := h

theorem wpOp_go {i : Nat} {o : Oper} {K : Act → World → Prop} {a : Act} {w : World} (ho : ops[i]? = some o) (hg : o.guard = none) (h : ∀ K' : Act → World → Prop, (∀ a w, K a w → K' a w) → o.wp P a w K' Q) : wpOp P ops Q i K a w :=
  wpOp_step ho (fun K' hK => by rw [if_pos (by simp [Region.wanted, hg])]; exact h K' hK)

/-- No operation defers. -/
def noDefer (ops : Array Oper) : Bool := ops.all fun o => match o.op with | .defer _ => false | _ => true
theorem noDefer_at (h : noDefer ops = true) {i : Nat} {o : Oper} (ho : ops[i]? = some o) : ∀ c, o.op ≠ .defer c := fun c hc => by
  have hm : o ∈ ops := Array.mem_of_getElem? ho
  have := Array.all_eq_true'.1 h o hm
  rw [hc] at this
  cases this

theorem opIn_of {lp n : Nat} (hd : noDefer ops = true) (hQ : ¬ LetsOut Q) {i : Nat} {K K' : Act → World → Prop} {a : Act} {w : World} (hK : ∀ a w, K a w → K' a w) (h : wpOp P ops Q i K a w) : wpOpIn (Fence.wide.inRound lp) n P ops Q i K' a w := by
  unfold wpOp at h
  unfold wpOpIn
  cases ho : ops[i]? with
  | none => simp only [ho] at h ⊢; exact hK _ _ h
  | some o =>
    simp only [ho] at h ⊢
    split
    · rename_i hw
      rw [if_pos hw] at h
      rcases h with h | h
      · refine ⟨fun _ _ => trivial, ?_⟩
        rw [Oper.semAt_eq _ _ _ (noDefer_at hd ho)]
        unfold Oper.wp at h
        generalize (execOp a.eval o).run P w = r at h ⊢
        cases r with
        | ok x w' =>
          cases x <;> simp only [Oper.upon] at h <;> simp only [Oper.uponIn]
          case value v => exact hK _ _ h
          case skip => exact hK _ _ h
          case defer d => exact hK _ _ h
          case enter f args =>
            refine ⟨fun e => by simp [Fence.wide, Fence.inRound] at e, CallsIn.inRound lp (callsIn_wide.2 (h.mono fun e w'' he => ?_))⟩
            cases e with
            | returned v => exact hK _ _ he
            | panicked c => exact he
            | outgrown => exact he
          case row row args =>
            refine ⟨fun e => by simp [Fence.wide, Fence.inRound] at e, fun c cs _ => ?_⟩
            obtain ⟨v, w'', hr, hs⟩ := h c cs
            exact ⟨v, w'', hK _ _ hr, stepsIn_wide.2 hs⟩
        | halt x w' => cases x <;> simp only [Oper.upon] at h <;> simp only [Oper.uponIn] <;> exact h
      · exact absurd h.2 hQ
    · rename_i hw
      rw [if_neg hw] at h
      exact ⟨fun _ _ => trivial, hK _ _ h⟩

theorem anyIn_of {lp n : Nat} (hd : noDefer ops = true) (hQ : ¬ LetsOut Q) : ∀ (fuel : Nat) (listed : Array Bool) (a : Act) (w : World), wpAny P md ops Q fuel listed a w → wpAnyIn (Fence.wide.inRound lp) n P md ops Q fuel listed a w
  | 0, _, _, _, h => h
  | fuel + 1, _, _, _, h => ⟨h.1, fun i hi => opIn_of hd hQ (fun a' w' h' => anyIn_of hd hQ fuel _ a' w' h') (h.2 i hi)⟩

/-- The region, inside a round. -/
theorem wpIn_region_two {id n lp : Nat} (k : Nat) (oA oB : Oper) {a : Act} {w : World} (hm : P.follows .mixedOrders = true) (hs : Region.noSelect ops = true) (hd : noDefer ops = true) (hQ : ¬ LetsOut Q) (hsz : ops.size = k + 4)
    (hoA : ops[k]? = some oA) (hoB : ops[k + 1]? = some oB)
    (hgA : oA.guard = none) (hgB : oB.guard = none) (hrA : ∀ ρ w, (execOp ρ oA).run P w = .ok (.value (.pointer (some ⟨w.heap.size, 0, none⟩))) (w.alloc (.cells Z T))) (hrB : ∀ ρ w, (execOp ρ oB).run P w = .ok (.value (.pointer (some ⟨w.heap.size, 0, none⟩))) (w.alloc (.cells Z T)))
    (hlex : lexA .any ops (fun i => i == k || i == k + 1) (k + 2) k 0 (Array.replicate ops.size false) = true)
    (r0 : Region.ready .any ops (listTo (Array.replicate ops.size false) 0 k) = [k, k + 1]) (r1 : Region.ready .any ops ((listTo (Array.replicate ops.size false) 0 k).setIfInBounds k true) = [k + 1]) (r2 : Region.ready .any ops ((listTo (Array.replicate ops.size false) 0 k).setIfInBounds (k + 1) true) = [k])
    (r3 : Region.ready .any ops (((listTo (Array.replicate ops.size false) 0 k).setIfInBounds k true).setIfInBounds (k + 1) true) = [k + 2]) (r4 : Region.ready .any ops ((((listTo (Array.replicate ops.size false) 0 k).setIfInBounds k true).setIfInBounds (k + 1) true).setIfInBounds (k + 2) true) = [k + 3])
    (r5 : Region.ready .any ops (((((listTo (Array.replicate ops.size false) 0 k).setIfInBounds k true).setIfInBounds (k + 1) true).setIfInBounds (k + 2) true).setIfInBounds (k + 3) true) = [])
    (hdst : ∀ d, oA.dst = some d → oB.dst ≠ some d)
    (h : wpQA P ops w (fun a' => ∀ B1 B2 w', w.heap.size ≤ B1 → w.heap.size ≤ B2 → B1 ≠ B2 → Below w.heap.size w w' → w'.heap[B1]? = some (.cells Z T (0, 0)) → w'.heap[B2]? = some (.cells Z T (0, 0)) →
      wpOp P ops Q (k + 2) (fun a' w' => wpOp P ops Q (k + 3) (fun a'' w'' => Q .normal a'' w'') a' w') ((a'.put oA.dst (.pointer (some ⟨B1, 0, none⟩))).put oB.dst (.pointer (some ⟨B2, 0, none⟩))) w') (ops.toList.take k) a) :
    (Code.region id ops true).wpIn (Fence.wide.inRound lp) n P Q a w := by
  have hlen : (ops.toList.take k).length = k := by rw [List.length_take, Array.length_toList, hsz]; omega
  refine wpIn_region_any hm (anyIn_of hd hQ _ _ _ _ ?_)
  refine any_of_A (w0 := w) (A := fun i => i == k || i == k + 1) (tl := k + 2) (Z := Z) (T := T) ?_ _ _ [] _ _ ⟨(Below.refl w.heap.size w).drew, fun p hp => by cases hp⟩ ?_
  · intro i o hi ho
    simp only [Bool.or_eq_true, beq_iff_eq] at hi
    rcases hi with rfl | rfl
    · rw [hoA] at ho; cases ho; exact ⟨hgA, hrA⟩
    · rw [hoB] at ho; cases ho; exact ⟨hgB, hrB⟩
  · have key := anyA_lex (P := P) (Q := Q) (w0 := w) (A := fun i => i == k || i == k + 1) (tl := k + 2) (Z := Z) (T := T) (md := .any) hs 4 (ops.toList.take k) 0 (Array.replicate ops.size false) a
      (fun j hj => by rw [hlen] at hj; rw [List.getElem?_take_of_lt hj]; simp) (by rw [hlen]; exact hlex)
    rw [hlen, ← hsz] at key
    refine key ?_
    have mono : ∀ (l : List Oper) (a : Act) (F G : Act → Prop), (∀ a, F a → G a) → wpQA P ops w F l a → wpQA P ops w G l a := by
      intro l
      induction l with
      | nil => intro a F G hFG hF; exact hFG _ hF
      | cons o r ih => intro a F G hFG hF; obtain ⟨v, h1, h2⟩ := hF; exact ⟨v, h1, ih _ F G hFG h2⟩
    refine mono _ _ _ _ (fun a' ha' => ?_) h
    exact anyA_end k oA oB _ a' hoA hoB r0 r1 r2 r3 r4 r5 (by simp) (by simp) hdst ha'
end
end Go.Proofs.YtgjleeamhkolhaaGreatDoor

namespace Go.Proofs.YtgjleeamhkolhaaGreatDoor
open Go.RowKit

section
variable {P : Program} {ops : Array Oper} {md : Region.Mode} {Q : Exit → Act → World → Prop} {w0 : World} {A : Nat → Bool} {Z : Array Value} {T : TypeId}

theorem anyA_end5 (k : Nat) (oC oA oB oS : Oper) (v : Value) (L : Array Bool) (a : Act) (hoC : ops[k]? = some oC) (hoA : ops[k + 1]? = some oA) (hoB : ops[k + 2]? = some oB) (hoS : ops[k + 3]? = some oS)
    (q0 : Region.ready md ops L = [k, k + 1, k + 2]) (qC : Region.ready md ops (L.setIfInBounds k true) = [k + 1, k + 2])
    (qA : Region.ready md ops (L.setIfInBounds (k + 1) true) = [k, k + 2]) (qB : Region.ready md ops (L.setIfInBounds (k + 2) true) = [k, k + 1])
    (qCA : Region.ready md ops ((L.setIfInBounds k true).setIfInBounds (k + 1) true) = [k + 2]) (qCB : Region.ready md ops ((L.setIfInBounds k true).setIfInBounds (k + 2) true) = [k + 1])
    (qAB : Region.ready md ops ((L.setIfInBounds (k + 1) true).setIfInBounds (k + 2) true) = [k, k + 3])
    (qCAB : Region.ready md ops (((L.setIfInBounds k true).setIfInBounds (k + 1) true).setIfInBounds (k + 2) true) = [k + 3])
    (qABS : Region.ready md ops (((L.setIfInBounds (k + 1) true).setIfInBounds (k + 2) true).setIfInBounds (k + 3) true) = [k])
    (qCABS : Region.ready md ops ((((L.setIfInBounds k true).setIfInBounds (k + 1) true).setIfInBounds (k + 2) true).setIfInBounds (k + 3) true) = [k + 4])
    (qall : Region.ready md ops (((((L.setIfInBounds k true).setIfInBounds (k + 1) true).setIfInBounds (k + 2) true).setIfInBounds (k + 3) true).setIfInBounds (k + 4) true) = [])
    (hA0 : A k = false) (hA1 : A (k + 1) = true) (hA2 : A (k + 2) = true)
    (dAB : ∀ d, oA.dst = some d → oB.dst ≠ some d) (dCA : ∀ d, oC.dst = some d → oA.dst ≠ some d) (dCB : ∀ d, oC.dst = some d → oB.dst ≠ some d)
    (hsel : ∀ cs b, oC.op ≠ .select cs b) (lA : ∀ d, oA.dst = some d → d ∉ oC.looksAt ops) (lB : ∀ d, oB.dst = some d → d ∉ oC.looksAt ops)
    (hy : YA P ops w0 oC v a)
    (h : ∀ B1 B2 w, w0.heap.size ≤ B1 → w0.heap.size ≤ B2 → B1 ≠ B2 → Below w0.heap.size w0 w → w.heap[B1]? = some (.cells Z T (0, 0)) → w.heap[B2]? = some (.cells Z T (0, 0)) →
      wpOp P ops Q (k + 3) (fun a' w' => wpOp P ops Q (k + 4) (fun a'' w'' => Q .normal a'' w'') a' w') (((a.put oC.dst v).put oA.dst (.pointer (some ⟨B1, 0, none⟩))).put oB.dst (.pointer (some ⟨B2, 0, none⟩))) w)
    (h2 : ∀ B1 B2 w, w0.heap.size ≤ B1 → w0.heap.size ≤ B2 → B1 ≠ B2 → Below w0.heap.size w0 w → w.heap[B1]? = some (.cells Z T (0, 0)) → w.heap[B2]? = some (.cells Z T (0, 0)) →
      wpOp P ops Q (k + 3) (fun a' w' => wpOp P ops Q k (fun b w'' => wpOp P ops Q (k + 4) (fun a'' w'' => Q .normal a'' w'') b w'') a' w') ((a.put oA.dst (.pointer (some ⟨B1, 0, none⟩))).put oB.dst (.pointer (some ⟨B2, 0, none⟩))) w) :
    anyA P md ops Q w0 A (k + 3) Z T 5 L [] a := by
  have last : ∀ a' w', wpOp P ops Q (k + 4) (fun a'' w'' => Q .normal a'' w'') a' w' → wpAny P md ops Q 1 ((((L.setIfInBounds k true).setIfInBounds (k + 1) true).setIfInBounds (k + 2) true).setIfInBounds (k + 3) true) a' w' := by
    intro a' w' h'
    refine ⟨fun e => ?_, fun i hi => ?_⟩
    · rw [qCABS] at e
      cases e
    · rw [qCABS] at hi
      obtain rfl : i = k + 4 := by simpa using hi
      exact wpOp_mono (fun a'' w'' h'' => ⟨qall, h''⟩) h'
  have fin : ∀ B1 B2 w, w0.heap.size ≤ B1 → w0.heap.size ≤ B2 → B1 ≠ B2 → Below w0.heap.size w0 w → w.heap[B1]? = some (.cells Z T (0, 0)) → w.heap[B2]? = some (.cells Z T (0, 0)) →
      wpOp P ops Q (k + 3) (wpAny P md ops Q 1 ((((L.setIfInBounds k true).setIfInBounds (k + 1) true).setIfInBounds (k + 2) true).setIfInBounds (k + 3) true)) (((a.put oC.dst v).put oA.dst (.pointer (some ⟨B1, 0, none⟩))).put oB.dst (.pointer (some ⟨B2, 0, none⟩))) w :=
    fun B1 B2 w g1 g2 g3 g4 g5 g6 => wpOp_mono last (h B1 B2 w g1 g2 g3 g4 g5 g6)
  have cm1 : (((L.setIfInBounds (k + 1) true).setIfInBounds (k + 2) true).setIfInBounds (k + 3) true).setIfInBounds k true = (((L.setIfInBounds k true).setIfInBounds (k + 1) true).setIfInBounds (k + 2) true).setIfInBounds (k + 3) true := by
    rw [Array.setIfInBounds_comm (i := k + 3) (j := k) _ _ (by omega), Array.setIfInBounds_comm (i := k + 2) (j := k) _ _ (by omega), Array.setIfInBounds_comm (i := k + 1) (j := k) _ _ (by omega)]
  have fin2 : ∀ B1 B2 w, w0.heap.size ≤ B1 → w0.heap.size ≤ B2 → B1 ≠ B2 → Below w0.heap.size w0 w → w.heap[B1]? = some (.cells Z T (0, 0)) → w.heap[B2]? = some (.cells Z T (0, 0)) →
      wpOp P ops Q (k + 3) (wpAny P md ops Q 2 (((L.setIfInBounds (k + 1) true).setIfInBounds (k + 2) true).setIfInBounds (k + 3) true)) ((a.put oA.dst (.pointer (some ⟨B1, 0, none⟩))).put oB.dst (.pointer (some ⟨B2, 0, none⟩))) w := by
    intro B1 B2 w g1 g2 g3 g4 g5 g6
    refine wpOp_mono (fun a' w' h' => ?_) (h2 B1 B2 w g1 g2 g3 g4 g5 g6)
    refine ⟨fun e => ?_, fun i hi => ?_⟩
    · rw [qABS] at e
      cases e
    · rw [qABS] at hi
      obtain rfl : i = k := by simpa using hi
      refine wpOp_mono (fun b w'' h'' => ?_) h'
      rw [cm1]
      exact last b w'' h''
  -- the two allocations, the move done
  have two : ∀ (s : List (Nat × Nat)), s = [] → anyA P md ops Q w0 A (k + 3) Z T 4 (L.setIfInBounds k true) s (a.put oC.dst v) := by
    rintro s rfl
    refine ⟨by rw [qC]; simp, fun i hi => ?_⟩
    rw [qC] at hi
    rcases (show i = k + 1 ∨ i = k + 2 by simpa using hi) with rfl | rfl
    · refine ⟨fun e => by omega, fun _ _ o B ho hB _ => ?_, fun _ ha => absurd (hA1.symm.trans ha) (by simp)⟩
      rw [hoA] at ho
      cases ho
      refine ⟨by rw [qCA]; simp, fun j hj => ?_⟩
      rw [qCA] at hj
      obtain rfl : j = k + 2 := by simpa using hj
      refine ⟨fun e => by omega, fun _ _ o B' ho hB' hn => ?_, fun _ ha => absurd (hA2.symm.trans ha) (by simp)⟩
      rw [hoB] at ho
      cases ho
      refine ⟨by rw [qCAB]; simp, fun m hm => ?_⟩
      rw [qCAB] at hm
      obtain rfl : m = k + 3 := by simpa using hm
      exact ⟨fun _ w hw => fin B B' w hB hB' (fun e => hn (by simp [e])) hw.old (hw.at_ (k + 1, B) (by simp)).2 (hw.at_ (k + 2, B') (by simp)).2, fun e => absurd rfl e, fun e => absurd rfl e⟩
    · refine ⟨fun e => by omega, fun _ _ o B ho hB _ => ?_, fun _ ha => absurd (hA2.symm.trans ha) (by simp)⟩
      rw [hoB] at ho
      cases ho
      refine ⟨by rw [qCB]; simp, fun j hj => ?_⟩
      rw [qCB] at hj
      obtain rfl : j = k + 1 := by simpa using hj
      refine ⟨fun e => by omega, fun _ _ o B' ho hB' hn => ?_, fun _ ha => absurd (hA1.symm.trans ha) (by simp)⟩
      rw [hoA] at ho
      cases ho
      rw [Array.setIfInBounds_comm (i := k + 2) (j := k + 1) _ _ (by omega)]
      refine ⟨by rw [qCAB]; simp, fun m hm => ?_⟩
      rw [qCAB] at hm
      obtain rfl : m = k + 3 := by simpa using hm
      refine ⟨fun _ w hw => ?_, fun e => absurd rfl e, fun e => absurd rfl e⟩
      rw [← Act.put_comm _ _ _ dAB]
      exact fin B' B w hB' hB (fun e => hn (by simp [e])) hw.old (hw.at_ (k + 1, B') (by simp)).2 (hw.at_ (k + 2, B) (by simp)).2
  -- both allocations done, the move not yet
  have both : ∀ B1 B2 (σ : List (Nat × Nat)), w0.heap.size ≤ B1 → w0.heap.size ≤ B2 → B1 ≠ B2 → (k + 1, B1) ∈ σ → (k + 2, B2) ∈ σ →
      anyA P md ops Q w0 A (k + 3) Z T 3 ((L.setIfInBounds (k + 1) true).setIfInBounds (k + 2) true) σ ((a.put oA.dst (.pointer (some ⟨B1, 0, none⟩))).put oB.dst (.pointer (some ⟨B2, 0, none⟩))) := by
    intro B1 B2 σ g1 g2 g3 m1 m2
    refine ⟨by rw [qAB]; simp, fun i hi => ?_⟩
    rw [qAB] at hi
    rcases (show i = k ∨ i = k + 3 by simpa using hi) with rfl | rfl
    · refine ⟨fun e => by omega, fun _ ha => absurd (hA0.symm.trans ha) (by simp), fun _ _ => ⟨oC, v, hoC, (hy.put hsel lA).put hsel lB, ?_⟩⟩
      have e1 : ((L.setIfInBounds (i + 1) true).setIfInBounds (i + 2) true).setIfInBounds i true = ((L.setIfInBounds i true).setIfInBounds (i + 1) true).setIfInBounds (i + 2) true := by
        rw [Array.setIfInBounds_comm (i := i + 2) (j := i) _ _ (by omega), Array.setIfInBounds_comm (i := i + 1) (j := i) _ _ (by omega)]
      rw [e1, ← Act.put_comm _ _ _ dCB, ← Act.put_comm _ _ _ dCA]
      refine ⟨by rw [qCAB]; simp, fun m hm => ?_⟩
      rw [qCAB] at hm
      obtain rfl : m = i + 3 := by simpa using hm
      exact ⟨fun _ w hw => fin B1 B2 w g1 g2 g3 hw.old (hw.at_ _ m1).2 (hw.at_ _ m2).2, fun e => absurd rfl e, fun e => absurd rfl e⟩
    · exact ⟨fun _ w hw => fin2 B1 B2 w g1 g2 g3 hw.old (hw.at_ _ m1).2 (hw.at_ _ m2).2, fun e => absurd rfl e, fun e => absurd rfl e⟩
  refine ⟨by rw [q0]; simp, fun i hi => ?_⟩
  rw [q0] at hi
  rcases (show i = k ∨ i = k + 1 ∨ i = k + 2 by simpa using hi) with rfl | rfl | rfl
  · exact ⟨fun e => by omega, fun _ ha => absurd (hA0.symm.trans ha) (by simp), fun _ _ => ⟨oC, v, hoC, hy, two [] rfl⟩⟩
  · refine ⟨fun e => by omega, fun _ _ o B ho hB _ => ?_, fun _ ha => absurd (hA1.symm.trans ha) (by simp)⟩
    rw [hoA] at ho
    cases ho
    refine ⟨by rw [qA]; simp, fun j hj => ?_⟩
    rw [qA] at hj
    rcases (show j = k ∨ j = k + 2 by simpa using hj) with rfl | rfl
    · refine ⟨fun e => by omega, fun _ ha => absurd (hA0.symm.trans ha) (by simp), fun _ _ => ⟨oC, v, hoC, hy.put hsel lA, ?_⟩⟩
      rw [Array.setIfInBounds_comm (i := j + 1) (j := j) _ _ (by omega), ← Act.put_comm _ _ _ dCA]
      refine ⟨by rw [qCA]; simp, fun m hm => ?_⟩
      rw [qCA] at hm
      obtain rfl : m = j + 2 := by simpa using hm
      refine ⟨fun e => by omega, fun _ _ o B' ho hB' hn => ?_, fun _ ha => absurd (hA2.symm.trans ha) (by simp)⟩
      rw [hoB] at ho
      cases ho
      refine ⟨by rw [qCAB]; simp, fun m hm => ?_⟩
      rw [qCAB] at hm
      obtain rfl : m = j + 3 := by simpa using hm
      exact ⟨fun _ w hw => fin B B' w hB hB' (fun e => hn (by simp [e])) hw.old (hw.at_ (j + 1, B) (by simp)).2 (hw.at_ (j + 2, B') (by simp)).2, fun e => absurd rfl e, fun e => absurd rfl e⟩
    · refine ⟨fun e => by omega, fun _ _ o B' ho hB' hn => ?_, fun _ ha => absurd (hA2.symm.trans ha) (by simp)⟩
      rw [hoB] at ho
      cases ho
      exact both B B' _ hB hB' (fun e => hn (by simp [e])) (by simp) (by simp)
  · refine ⟨fun e => by omega, fun _ _ o B ho hB _ => ?_, fun _ ha => absurd (hA2.symm.trans ha) (by simp)⟩
    rw [hoB] at ho
    cases ho
    refine ⟨by rw [qB]; simp, fun j hj => ?_⟩
    rw [qB] at hj
    rcases (show j = k ∨ j = k + 1 by simpa using hj) with rfl | rfl
    · refine ⟨fun e => by omega, fun _ ha => absurd (hA0.symm.trans ha) (by simp), fun _ _ => ⟨oC, v, hoC, hy.put hsel lB, ?_⟩⟩
      rw [Array.setIfInBounds_comm (i := j + 2) (j := j) _ _ (by omega), ← Act.put_comm _ _ _ dCB]
      refine ⟨by rw [qCB]; simp, fun m hm => ?_⟩
      rw [qCB] at hm
      obtain rfl : m = j + 1 := by simpa using hm
      refine ⟨fun e => by omega, fun _ _ o B' ho hB' hn => ?_, fun _ ha => absurd (hA1.symm.trans ha) (by simp)⟩
      rw [hoA] at ho
      cases ho
      rw [Array.setIfInBounds_comm (i := j + 2) (j := j + 1) _ _ (by omega)]
      refine ⟨by rw [qCAB]; simp, fun m hm => ?_⟩
      rw [qCAB] at hm
      obtain rfl : m = j + 3 := by simpa using hm
      refine ⟨fun _ w hw => ?_, fun e => absurd rfl e, fun e => absurd rfl e⟩
      rw [← Act.put_comm _ _ _ dAB]
      exact fin B' B w hB' hB (fun e => hn (by simp [e])) hw.old (hw.at_ (j + 1, B') (by simp)).2 (hw.at_ (j + 2, B) (by simp)).2
    · refine ⟨fun e => by omega, fun _ _ o B' ho hB' hn => ?_, fun _ ha => absurd (hA1.symm.trans ha) (by simp)⟩
      rw [hoA] at ho
      cases ho
      rw [Array.setIfInBounds_comm (i := k + 2) (j := k + 1) _ _ (by omega), ← Act.put_comm _ _ _ dAB]
      exact both B' B _ hB' hB (fun e => hn (by simp [e])) (by simp) (by simp)

/-- The region, inside a round. -/
theorem wpIn_region_three {id n lp : Nat} (k : Nat) (oC oA oB oS : Oper) (v : Value) {a : Act} {w : World} (hm : P.follows .mixedOrders = true) (hs : Region.noSelect ops = true) (hd : noDefer ops = true) (hQ : ¬ LetsOut Q) (hsz : ops.size = k + 5)
    (hoC : ops[k]? = some oC) (hoA : ops[k + 1]? = some oA) (hoB : ops[k + 2]? = some oB) (hoS : ops[k + 3]? = some oS)
    (hgA : oA.guard = none) (hgB : oB.guard = none) (hrA : ∀ ρ w, (execOp ρ oA).run P w = .ok (.value (.pointer (some ⟨w.heap.size, 0, none⟩))) (w.alloc (.cells Z T))) (hrB : ∀ ρ w, (execOp ρ oB).run P w = .ok (.value (.pointer (some ⟨w.heap.size, 0, none⟩))) (w.alloc (.cells Z T)))
    (L0 : Array Bool) (hL0 : L0 = Array.replicate ops.size false) (L : Array Bool) (hL : L = listTo L0 0 k)
    (hlex : lexA .any ops (fun i => i == k + 1 || i == k + 2) (k + 3) k 0 L0 = true)
    (q0 : Region.ready .any ops L = [k, k + 1, k + 2]) (qC : Region.ready .any ops (L.setIfInBounds k true) = [k + 1, k + 2])
    (qA : Region.ready .any ops (L.setIfInBounds (k + 1) true) = [k, k + 2]) (qB : Region.ready .any ops (L.setIfInBounds (k + 2) true) = [k, k + 1])
    (qCA : Region.ready .any ops ((L.setIfInBounds k true).setIfInBounds (k + 1) true) = [k + 2]) (qCB : Region.ready .any ops ((L.setIfInBounds k true).setIfInBounds (k + 2) true) = [k + 1])
    (qAB : Region.ready .any ops ((L.setIfInBounds (k + 1) true).setIfInBounds (k + 2) true) = [k, k + 3])
    (qCAB : Region.ready .any ops (((L.setIfInBounds k true).setIfInBounds (k + 1) true).setIfInBounds (k + 2) true) = [k + 3])
    (qABS : Region.ready .any ops (((L.setIfInBounds (k + 1) true).setIfInBounds (k + 2) true).setIfInBounds (k + 3) true) = [k])
    (qCABS : Region.ready .any ops ((((L.setIfInBounds k true).setIfInBounds (k + 1) true).setIfInBounds (k + 2) true).setIfInBounds (k + 3) true) = [k + 4])
    (qall : Region.ready .any ops (((((L.setIfInBounds k true).setIfInBounds (k + 1) true).setIfInBounds (k + 2) true).setIfInBounds (k + 3) true).setIfInBounds (k + 4) true) = [])
    (dAB : ∀ d, oA.dst = some d → oB.dst ≠ some d) (dCA : ∀ d, oC.dst = some d → oA.dst ≠ some d) (dCB : ∀ d, oC.dst = some d → oB.dst ≠ some d)
    (lA : ∀ d, oA.dst = some d → d ∉ oC.looksAt ops) (lB : ∀ d, oB.dst = some d → d ∉ oC.looksAt ops)
    (h : wpQA P ops w (fun a' => YA P ops w oC v a' ∧ ∀ B1 B2 w', w.heap.size ≤ B1 → w.heap.size ≤ B2 → B1 ≠ B2 → Below w.heap.size w w' → w'.heap[B1]? = some (.cells Z T (0, 0)) → w'.heap[B2]? = some (.cells Z T (0, 0)) →
      wpOp P ops Q (k + 3) (fun a' w' => wpOp P ops Q (k + 4) (fun a'' w'' => Q .normal a'' w'') a' w') (((a'.put oC.dst v).put oA.dst (.pointer (some ⟨B1, 0, none⟩))).put oB.dst (.pointer (some ⟨B2, 0, none⟩))) w' ∧
      wpOp P ops Q (k + 3) (fun a' w' => wpOp P ops Q k (fun b w'' => wpOp P ops Q (k + 4) (fun a'' w'' => Q .normal a'' w'') b w'') a' w') ((a'.put oA.dst (.pointer (some ⟨B1, 0, none⟩))).put oB.dst (.pointer (some ⟨B2, 0, none⟩))) w') (ops.toList.take k) a) :
    (Code.region id ops true).wpIn (Fence.wide.inRound lp) n P Q a w := by
  subst hL0
  have hlen : (ops.toList.take k).length = k := by rw [List.length_take, Array.length_toList, hsz]; omega
  refine wpIn_region_any hm (anyIn_of hd hQ _ _ _ _ ?_)
  refine any_of_A (w0 := w) (A := fun i => i == k + 1 || i == k + 2) (tl := k + 3) (Z := Z) (T := T) ?_ _ _ [] _ _ ⟨(Below.refl w.heap.size w).drew, fun p hp => by cases hp⟩ ?_
  · intro i o hi ho
    simp only [Bool.or_eq_true, beq_iff_eq] at hi
    rcases hi with rfl | rfl
    · rw [hoA] at ho; cases ho; exact ⟨hgA, hrA⟩
    · rw [hoB] at ho; cases ho; exact ⟨hgB, hrB⟩
  · have key := anyA_lex (P := P) (Q := Q) (w0 := w) (A := fun i => i == k + 1 || i == k + 2) (tl := k + 3) (Z := Z) (T := T) (md := .any) hs 5 (ops.toList.take k) 0 (Array.replicate ops.size false) a
      (fun j hj => by rw [hlen] at hj; rw [List.getElem?_take_of_lt hj]; simp) (by rw [hlen]; exact hlex)
    rw [hlen, ← hsz, ← hL] at key
    refine key ?_
    have mono : ∀ (l : List Oper) (a : Act) (F G : Act → Prop), (∀ a, F a → G a) → wpQA P ops w F l a → wpQA P ops w G l a := by
      intro l
      induction l with
      | nil => intro a F G hFG hF; exact hFG _ hF
      | cons o r ih => intro a F G hFG hF; obtain ⟨v, h1, h2⟩ := hF; exact ⟨v, h1, ih _ F G hFG h2⟩
    refine mono _ _ _ _ (fun a' ha' => ?_) h
    exact anyA_end5 k oC oA oB oS v _ a' hoC hoA hoB hoS q0 qC qA qB qCA qCB qAB qCAB qABS qCABS qall (by simp) (by simp) (by simp) dAB dCA dCB (fun cs b => Region.noSelect_spec hs k oC cs b hoC) lA lB ha'.1
      (fun B1 B2 w' g1 g2 g3 g4 g5 g6 => (ha'.2 B1 B2 w' g1 g2 g3 g4 g5 g6).1) (fun B1 B2 w' g1 g2 g3 g4 g5 g6 => (ha'.2 B1 B2 w' g1 g2 g3 g4 g5 g6).2)
end
end Go.Proofs.YtgjleeamhkolhaaGreatDoor

namespace Go.Proofs.YtgjleeamhkolhaaGreatDoor
open Go.RowKit

section
variable {P : Program} {ops : Array Oper} {md : Region.Mode} {Q : Exit → Act → World → Prop} {C : List Nat → World → Prop} {A : Nat → Bool} {tl : Nat}

/-- In each of the classes the operation leaves v. -/
def YG (P : Program) (ops : Array Oper) (C : List Nat → World → Prop) (o : Oper) (v : Value) (a : Act) : Prop := ∀ σ, YieldsIn P ops (C σ) o v a
/-- The operation leads from one class to the next. -/
def EG (P : Program) (ops : Array Oper) (C : List Nat → World → Prop) (i : Nat) (σ : List Nat) (o : Oper) (a : Act) : Prop :=
  Region.wanted o (yielded ops a.tmps) = true ∧ ∀ w, C σ w → ∃ w', (execOp a.eval o).run P w = .ok .skip w' ∧ C (i :: σ) w'

/-- Whatever order is picked from here on. -/
def anyG (P : Program) (md : Region.Mode) (ops : Array Oper) (Q : Exit → Act → World → Prop) (C : List Nat → World → Prop) (A : Nat → Bool) (tl : Nat) : Nat → Array Bool → List Nat → Act → Prop
  | 0, _, _, _ => False
  | fuel + 1, listed, σ, a => Region.ready md ops listed ≠ [] ∧ ∀ i ∈ Region.ready md ops listed,
      (i = tl → ∀ w, C σ w → wpOp P ops Q i (wpAny P md ops Q fuel (listed.setIfInBounds i true)) a w) ∧
      (i ≠ tl → A i = true → ∃ o, ops[i]? = some o ∧ EG P ops C i σ o a ∧ anyG P md ops Q C A tl fuel (listed.setIfInBounds i true) (i :: σ) (a.put o.dst undef)) ∧
      (i ≠ tl → A i = false → ∃ o v, ops[i]? = some o ∧ YG P ops C o v a ∧ anyG P md ops Q C A tl fuel (listed.setIfInBounds i true) σ (a.put o.dst v))

theorem any_of_G : ∀ (fuel : Nat) (listed : Array Bool) (σ : List Nat) (a : Act) (w : World), C σ w → anyG P md ops Q C A tl fuel listed σ a → wpAny P md ops Q fuel listed a w
  | 0, _, _, _, _, _, h => h.elim
  | fuel + 1, listed, σ, a, w, hw, h => ⟨fun e => absurd e h.1, fun i hi => by
      obtain ⟨h1, h2, h3⟩ := h.2 i hi
      by_cases e : i = tl
      · exact h1 e w hw
      · cases ha : A i with
        | true =>
          obtain ⟨o, ho, ⟨hg, hr⟩, hk⟩ := h2 e ha
          obtain ⟨w', hrun, hC⟩ := hr w hw
          refine wpOp_step ho (fun K' hK => ?_)
          rw [if_pos hg]
          unfold Oper.wp
          rw [hrun]
          exact hK _ _ (any_of_G fuel _ _ _ _ hC hk)
        | false =>
          obtain ⟨o, v, ho, hy, hk⟩ := h3 e ha
          exact wpOp_of_qOp (C := C σ) hw (fun a' w' hw' hk' => any_of_G fuel _ σ a' w' hw' hk') ((hy σ).qOp ho hk)⟩

theorem YG.put {o oj : Oper} {v u : Value} {a : Act} (h : YG P ops C o v a) (hs : ∀ cs b, o.op ≠ .select cs b) (hap : ∀ d, oj.dst = some d → d ∉ o.looksAt ops) : YG P ops C o v (a.put oj.dst u) := fun σ =>
  (h σ).of_same (execOp_put o hs a oj.dst u hap) (wanted_put o a oj.dst u hap)
theorem YG.unput {o oi : Oper} {v u : Value} {a : Act} (h : YG P ops C o v (a.put oi.dst u)) (hs : ∀ cs b, o.op ≠ .select cs b) (hap : ∀ d, oi.dst = some d → d ∉ o.looksAt ops) : YG P ops C o v a := fun σ =>
  (h σ).of_same (execOp_put o hs a oi.dst u hap).symm (wanted_put o a oi.dst u hap).symm
theorem EG.unput {i : Nat} {σ : List Nat} {o oi : Oper} {u : Value} {a : Act} (h : EG P ops C i σ o (a.put oi.dst u)) (hs : ∀ cs b, o.op ≠ .select cs b) (hap : ∀ d, oi.dst = some d → d ∉ o.looksAt ops) : EG P ops C i σ o a := by
  unfold EG at *
  rw [wanted_put o a oi.dst u hap, execOp_put o hs a oi.dst u hap] at h
  exact h

/-- An operation that yields its value in each class, may come up now, and is apart from what does not wait for it, may be taken first. -/
theorem anyG_take {i x : Nat} {oi : Oper} {v : Value} (hi : ops[i]? = some oi) (hia : A i = false) (hit : i ≠ tl) (hsel : ∀ (j : Nat) (o : Oper) cs b, ops[j]? = some o → o.op ≠ .select cs b)
    (hx : x = i ∨ ∃ ox, ops[x]? = some ox ∧ ∃ e ∈ ox.after, Region.binds md e = true ∧ e.on = i)
    (hwait : ∀ oL, ops[tl]? = some oL → ∃ e ∈ oL.after, Region.binds md e = true ∧ e.on = x) :
    ∀ (fuel : Nat) (listed : Array Bool) (σ : List Nat) (a : Act), listed.getD x true = false →
      (∀ j oj, ops[j]? = some oj → j ≠ i → listed.getD j true = false → (∀ e ∈ oj.after, Region.binds md e = true → e.on ≠ i) → oi.apart ops oj = true) →
      i ∈ Region.ready md ops listed → YG P ops C oi v a →
      anyG P md ops Q C A tl fuel (listed.setIfInBounds i true) σ (a.put oi.dst v) → anyG P md ops Q C A tl (fuel + 1) listed σ a := by
  intro fuel
  induction fuel with
  | zero => intro _ _ _ _ _ _ _ H; exact H.elim
  | succ fuel ih =>
    intro listed σ a hxu hfree hr hy H
    have hun : listed.getD i true = false := (mem_ready.1 hr).1
    have clash : listed.getD i false = true → False := fun h1 => by
      rcases Nat.lt_or_ge i listed.size with h' | h'
      · simp [h'] at hun h1; rw [hun] at h1; cases h1
      · simp [Array.getElem?_eq_none h'] at h1
    have clashx : listed.getD x false = true → False := fun h1 => by
      rcases Nat.lt_or_ge x listed.size with h' | h'
      · simp [h'] at hxu h1; rw [hxu] at h1; cases h1
      · simp [Array.getElem?_eq_none h'] at h1
    refine ⟨fun e => (by rw [e] at hr; cases hr), fun j hj => ?_⟩
    obtain ⟨hjun, oj, hoj, hall⟩ := mem_ready.1 hj
    have hjl : j ≠ tl := fun e => by
      subst e
      obtain ⟨y, hy', hb, ho⟩ := hwait oj hoj
      exact clashx (by have := hall y hy' hb; rwa [ho] at this)
    refine ⟨fun e => absurd e hjl, ?_⟩
    by_cases hji : j = i
    · subst hji
      exact ⟨fun _ ha => absurd (hia.symm.trans ha) (by simp), fun _ _ => ⟨oi, v, hi, hy, H⟩⟩
    · have hnot : ∀ e ∈ oj.after, Region.binds md e = true → e.on ≠ i := fun e he hb heq => clash (by have := hall e he hb; rwa [heq] at this)
      obtain ⟨a1, a2, a3⟩ := Oper.apart_spec (hfree j oj hoj hji hjun hnot)
      have hjx : j ≠ x := fun e => by
        rcases hx with rfl | ⟨ox, hox, y, hy', hb, ho⟩
        · exact hji e
        · subst e
          rw [hoj] at hox
          cases hox
          exact hnot y hy' hb ho
      obtain ⟨_, h2, h3⟩ := H.2 j (ready_mono hj hji)
      have hxu' : (listed.setIfInBounds j true).getD x true = false := by rw [getD_set_ne true hjx]; exact hxu
      have hfree' : ∀ k ok, ops[k]? = some ok → k ≠ i → (listed.setIfInBounds j true).getD k true = false → (∀ e ∈ ok.after, Region.binds md e = true → e.on ≠ i) → oi.apart ops ok = true := fun k ok hk hki hku hkn => hfree k ok hk hki (by
        by_cases hjk : j = k
        · subst hjk; exact hjun
        · rw [getD_set_ne true hjk] at hku; exact hku) hkn
      refine ⟨fun _ ha => ?_, fun _ ha => ?_⟩
      · obtain ⟨o, ho, heg, hk⟩ := h2 hjl ha
        rw [hoj] at ho
        cases ho
        rw [Array.setIfInBounds_comm _ _ (Ne.symm hji), Act.put_comm a v _ a2] at hk
        exact ⟨oj, hoj, heg.unput (fun cs b => hsel j oj cs b hoj) a1, ih _ _ _ hxu' hfree' (ready_mono hr (Ne.symm hji)) (hy.put (fun cs b => hsel i oi cs b hi) a3) hk⟩
      · obtain ⟨o, u, ho, hyj, hk⟩ := h3 hjl ha
        rw [hoj] at ho
        cases ho
        rw [Array.setIfInBounds_comm _ _ (Ne.symm hji), Act.put_comm a v _ a2] at hk
        exact ⟨oj, u, hoj, hyj.unput (fun cs b => hsel j oj cs b hoj) a1, ih _ _ _ hxu' hfree' (ready_mono hr (Ne.symm hji)) (hy.put (fun cs b => hsel i oi cs b hi) a3) hk⟩

/-- The lexical walk, with values that hold in each class. -/
def wpQG (P : Program) (ops : Array Oper) (C : List Nat → World → Prop) (Fin : Act → Prop) : List Oper → Act → Prop
  | [], a => Fin a
  | o :: rest, a => ∃ v, YG P ops C o v a ∧ wpQG P ops C Fin rest (a.put o.dst v)

theorem anyG_lex (hs : Region.noSelect ops = true) (m : Nat) : ∀ (l : List Oper) (k : Nat) (listed : Array Bool) (a : Act), (∀ j, j < l.length → l[j]? = ops[k + j]?) → lexA md ops A tl l.length k listed = true →
    wpQG P ops C (anyG P md ops Q C A tl m (listTo listed k l.length) []) l a → anyG P md ops Q C A tl (l.length + m) listed [] a
  | [], _, _, a, _, _, h => by simpa [wpQG, listTo] using h
  | o :: l, k, listed, a, hl, hB, h => by
    have h0 : ops[k]? = some o := by simpa using (hl 0 (by simp)).symm
    simp only [List.length_cons, lexA, Bool.and_eq_true] at hB
    obtain ⟨⟨⟨⟨⟨hr, hf⟩, hk1⟩, hk2⟩, hwt⟩, hB'⟩ := hB
    obtain ⟨x, hxw⟩ := Option.isSome_iff_exists.1 hwt
    have hxp := List.find?_some hxw
    simp only [Bool.and_eq_true, Bool.not_eq_true'] at hxp
    obtain ⟨⟨hx1, hx2⟩, hx3⟩ := hxp
    obtain ⟨v, hy, hK⟩ := h
    have ih := anyG_lex hs m l (k + 1) (listed.setIfInBounds k true) (a.put o.dst v) (fun j hj => by have := hl (j + 1) (by simp; omega); simpa [Nat.add_assoc, Nat.add_comm 1 j] using this) hB' hK
    have e : (o :: l).length + m = (l.length + m) + 1 := by simp; omega
    rw [e]
    refine anyG_take (x := x) h0 (by simpa using hk1) (by simpa using hk2) (Region.noSelect_spec hs) ?_ (fun oL hoL => ?_) (l.length + m) listed [] a hx1 (Region.free_spec h0 hf) (by simpa using hr) hy ih
    · simp only [Bool.or_eq_true, beq_iff_eq] at hx2
      rcases hx2 with h1 | h1
      · exact Or.inl h1
      · right
        cases hox : ops[x]? with
        | none => rw [hox] at h1; cases h1
        | some ox =>
          rw [hox] at h1
          simp only [List.any_eq_true, Bool.and_eq_true, beq_iff_eq] at h1
          obtain ⟨e, he, h2, h3⟩ := h1
          exact ⟨ox, rfl, e, by simpa using he, h2, h3⟩
    · rw [hoL] at hx3
      simp only [List.any_eq_true, Bool.and_eq_true, beq_iff_eq] at hx3
      obtain ⟨e, he, h2, h3⟩ := hx3
      exact ⟨e, by simpa using he, h2, h3⟩

/-- Two classes: ahead of the one store, and behind it. -/
def two (C0 C1 : World → Prop) : List Nat → World → Prop
  | [] => C0
  | _ :: _ => C1

theorem YG_of {C0 C1 : World → Prop} {o : Oper} {v : Value} {a : Act} (hg : o.guard = none) (h : ∀ W, C0 W ∨ C1 W → (execOp a.eval o).run P W = .ok (.value v) W) : YG P ops (two C0 C1) o v a := fun σ =>
  .inl ⟨by simp [Region.wanted, hg], fun W hW => by
    unfold Oper.quietAt
    rw [h W (by cases σ with | nil => exact .inl hW | cons _ _ => exact .inr hW)]
    exact ⟨rfl, rfl⟩⟩
theorem wpQG_cons {F : Act → Prop} {o : Oper} {rest : List Oper} {a : Act} (v : Value) (h : YG P ops C o v a) (hr : wpQG P ops C F rest (a.put o.dst v)) : wpQG P ops C F (o :: rest) a := ⟨v, h, hr⟩
theorem wpQG_nil {F : Act → Prop} {a : Act} (h : F a) : wpQG P ops C F [] a := h
theorem wpQG_mono : ∀ (l : List Oper) (a : Act) (F G : Act → Prop), (∀ a, F a → G a) → wpQG P ops C F l a → wpQG P ops C G l a
  | [], _, _, _, hFG, hF => hFG _ hF
  | _ :: r, _, F, G, hFG, ⟨v, h1, h2⟩ => ⟨v, h1, wpQG_mono r _ F G hFG h2⟩

/-- The region, inside a round: quiet operations, a store that waits for some of them alone, one more, the last store. -/
theorem wpIn_region_stores {id n lp : Nat} (k : Nat) (oS oI : Oper) (v : Value) (C0 C1 : World → Prop) {a : Act} {w : World} (hm : P.follows .mixedOrders = true) (hs : Region.noSelect ops = true) (hd : noDefer ops = true) (hQ : ¬ LetsOut Q) (hsz : ops.size = k + 3)
    (hoS : ops[k]? = some oS) (hoI : ops[k + 1]? = some oI) (hgS : oS.guard = none)
    (L0 : Array Bool) (hL0 : L0 = Array.replicate ops.size false) (L : Array Bool) (hL : L = listTo L0 0 k)
    (hlex : lexA .any ops (fun i => i == k) (k + 2) k 0 L0 = true)
    (q0 : Region.ready .any ops L = [k]) (q1 : Region.ready .any ops (L.setIfInBounds k true) = [k + 1])
    (q2 : Region.ready .any ops ((L.setIfInBounds k true).setIfInBounds (k + 1) true) = [k + 2])
    (q3 : Region.ready .any ops (((L.setIfInBounds k true).setIfInBounds (k + 1) true).setIfInBounds (k + 2) true) = [])
    (hC : C0 w.drew)
    (h : wpQG P ops (two C0 C1) (fun a' => (∀ w', C0 w' → ∃ w'', (execOp a'.eval oS).run P w' = .ok .skip w'' ∧ C1 w'') ∧ YG P ops (two C0 C1) oI v (a'.put oS.dst undef) ∧
      ∀ w', C1 w' → wpOp P ops Q (k + 2) (fun a'' w'' => Q .normal a'' w'') ((a'.put oS.dst undef).put oI.dst v) w') (ops.toList.take k) a) :
    (Code.region id ops true).wpIn (Fence.wide.inRound lp) n P Q a w := by
  subst hL0
  have hlen : (ops.toList.take k).length = k := by rw [List.length_take, Array.length_toList, hsz]; omega
  refine wpIn_region_any hm (anyIn_of hd hQ _ _ _ _ ?_)
  refine any_of_G (C := two C0 C1) (A := fun i => i == k) (tl := k + 2) _ _ [] _ _ hC ?_
  have key := anyG_lex (P := P) (Q := Q) (C := two C0 C1) (A := fun i => i == k) (tl := k + 2) (md := .any) hs 3 (ops.toList.take k) 0 (Array.replicate ops.size false) a
    (fun j hj => by rw [hlen] at hj; rw [List.getElem?_take_of_lt hj]; simp) (by rw [hlen]; exact hlex)
  rw [hlen, ← hsz, ← hL] at key
  refine key (wpQG_mono _ _ _ _ (fun a' ha' => ?_) h)
  obtain ⟨h1, h2, h3⟩ := ha'
  refine ⟨by rw [q0]; simp, fun i hi => ?_⟩
  rw [q0] at hi
  obtain rfl : i = k := by simpa using hi
  refine ⟨fun e => by omega, fun _ _ => ⟨oS, hoS, ⟨by simp [Region.wanted, hgS], h1⟩, ?_⟩, fun _ ha => by simp at ha⟩
  refine ⟨by rw [q1]; simp, fun j hj => ?_⟩
  rw [q1] at hj
  obtain rfl : j = i + 1 := by simpa using hj
  refine ⟨fun e => by omega, fun _ ha => by simp at ha, fun _ _ => ⟨oI, v, hoI, h2, ?_⟩⟩
  refine ⟨by rw [q2]; simp, fun m hm => ?_⟩
  rw [q2] at hm
  obtain rfl : m = i + 2 := by simpa using hm
  exact ⟨fun _ w' hw' => wpOp_mono (fun a'' w'' h'' => ⟨q3, h''⟩) (h3 w' hw'), fun e => absurd rfl e, fun e => absurd rfl e⟩
end
end Go.Proofs.YtgjleeamhkolhaaGreatDoor
