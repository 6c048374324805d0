/- Joined texts: Last, OwnMore, SpanBack, SpanSpec, SpanSaid, StepInfo, GrownMore, TubeI, PbData, PbTube0, PbCutD, PbInS, PbSpec1, PbBel. -/
import Derived.Deep.Quiet
import Derived.Maps.AppendAt
import Derived.Deep.RegionHeld3
import Derived.Deep.DeepCutAuto
import Derived.WalkKit
import Derived.WalkSpells
import Derived.Test.YtgkebobmfagklaaGreatRows
import Derived.Test.YtgkebobmfagklaaGreatJ01
namespace Go.Proofs.YtgkebobmfagklaaGreat
open Go.RowKit

section
variable {P : Program} {ops : Array Oper} {md : Region.Mode} {C : World → Prop} {last : Nat} {Q : Exit → Act → World → Prop}

/-- Whatever order is picked from here on: all operations but the last one are quiet; the last one comes up when nothing else is left. -/
def anyL (P : Program) (md : Region.Mode) (ops : Array Oper) (C : World → Prop) (last : Nat) (Q : Exit → Act → World → Prop) : Nat → Array Bool → Act → Prop
  | 0, _, _ => False
  | fuel + 1, listed, a => Region.ready md ops listed ≠ [] ∧ ∀ i ∈ Region.ready md ops listed,
      (i = last → Region.ready md ops (listed.setIfInBounds last true) = [] ∧ ∀ w, C w → wpOp P ops Q last (fun a' w' => Q .normal a' w') a w) ∧
      (i ≠ last → qOp P ops C i (anyL P md ops C last Q fuel (listed.setIfInBounds i true)) a)

theorem any_done {listed : Array Bool} (h : Region.ready md ops listed = []) {a : Act} {w : World} (hq : Q .normal a w) : ∀ fuel, wpAny P md ops Q fuel listed a w
  | 0 => ⟨h, hq⟩
  | _ + 1 => ⟨fun _ => hq, fun i hi => by rw [h] at hi; cases hi⟩

theorem any_of_L : ∀ (fuel : Nat) (listed : Array Bool) (a : Act) (w : World), C w → anyL P md ops C last Q fuel listed a → wpAny P md ops Q fuel listed a w
  | 0, _, _, _, _, h => h.elim
  | fuel + 1, listed, a, w, hw, h => ⟨fun e => absurd e h.1, fun i hi => by
      by_cases e : i = last
      · subst e
        obtain ⟨h1, h2⟩ := (h.2 i hi).1 rfl
        exact wpOp_mono (fun a' w' hq => any_done h1 hq fuel) (h2 w hw)
      · exact wpOp_of_qOp hw (fun a' w' hw' hk => any_of_L fuel _ a' w' hw' hk) ((h.2 i hi).2 e)⟩

/-- An operation that is quiet, may come up now, and is apart from what does not wait for it, may be taken first. -/
theorem anyL_take {i x : Nat} {oi : Oper} {v : Value} (hi : ops[i]? = some oi) (hsel : ∀ (j : Nat) (o : Oper) cs b, ops[j]? = some o → o.op ≠ .select cs b)
    (hx : x = i ∨ ∃ ox, ops[x]? = some ox ∧ ∃ e ∈ ox.after, Region.binds md e = true ∧ e.on = i)
    (hwait : ∀ oL, ops[last]? = some oL → ∃ e ∈ oL.after, Region.binds md e = true ∧ e.on = x) :
    ∀ (fuel : Nat) (listed : Array Bool) (a : Act), listed.getD x true = false →
      (∀ j oj, ops[j]? = some oj → j ≠ i → listed.getD j true = false → (∀ e ∈ oj.after, Region.binds md e = true → e.on ≠ i) → oi.apart ops oj = true) →
      i ∈ Region.ready md ops listed → YieldsIn P ops C oi v a →
      anyL P md ops C last Q fuel (listed.setIfInBounds i true) (a.put oi.dst v) → anyL P md ops C last Q (fuel + 1) listed a := by
  intro fuel
  induction fuel with
  | zero => intro _ _ _ _ _ _ H; exact H.elim
  | succ fuel ih =>
    intro listed a hxu hfree hr hy H
    have hun : listed.getD i true = false := (mem_ready.1 hr).1
    have clash : listed.getD i false = true → False := fun h1 => by
      rcases Nat.lt_or_ge i listed.size with h' | h'
      · simp [h'] at hun h1; rw [hun] at h1; cases h1
      · simp [Array.getElem?_eq_none h'] at h1
    have clashx : listed.getD x false = true → False := fun h1 => by
      rcases Nat.lt_or_ge x listed.size with h' | h'
      · simp [h'] at hxu h1; rw [hxu] at h1; cases h1
      · simp [Array.getElem?_eq_none h'] at h1
    refine ⟨fun e => (by rw [e] at hr; cases hr), fun j hj => ?_⟩
    obtain ⟨hjun, oj, hoj, hall⟩ := mem_ready.1 hj
    have hjl : j ≠ last := fun e => by
      subst e
      obtain ⟨y, hy', hb, ho⟩ := hwait oj hoj
      exact clashx (by have := hall y hy' hb; rwa [ho] at this)
    refine ⟨fun e => absurd e hjl, fun _ => ?_⟩
    by_cases hji : j = i
    · subst hji
      exact hy.qOp hi H
    · have hnot : ∀ e ∈ oj.after, Region.binds md e = true → e.on ≠ i := fun e he hb heq => clash (by have := hall e he hb; rwa [heq] at this)
      have h1 := (H.2 j (ready_mono hj hji)).2 hjl
      have h2 := qOp_put hoj (hfree j oj hoj hji hjun hnot) (fun cs b => hsel i oi cs b hi) (fun cs b => hsel j oj cs b hoj) hy h1
      have hjx : j ≠ x := fun e => by
        rcases hx with rfl | ⟨ox, hox, y, hy', hb, ho⟩
        · exact hji e
        · subst e
          rw [hoj] at hox
          cases hox
          exact hnot y hy' hb ho
      refine qOp_mono (fun a' h3 => ih (listed.setIfInBounds j true) a' (by rw [getD_set_ne true hjx]; exact hxu) (fun k ok hk hki hku hkn => hfree k ok hk hki ?_ hkn) (ready_mono hr (Ne.symm hji)) h3.1 ?_) h2
      · by_cases hjk : j = k
        · subst hjk; exact hjun
        · rw [getD_set_ne true hjk] at hku; exact hku
      · rw [Array.setIfInBounds_comm _ _ hji]
        exact h3.2

/-- While the k-th operation is not done, the last one cannot come up: it waits for it, or for one that is not done and waits for it. -/
def waitsAt (md : Region.Mode) (ops : Array Oper) (last k : Nat) (listed : Array Bool) : Option Nat :=
  (List.range last).find? fun x => !(listed.getD x true) && (x == k || (match ops[x]? with | none => false | some ox => ox.after.toList.any fun e => Region.binds md e && e.on == k)) &&
    (match ops[last]? with | none => true | some oL => oL.after.toList.any fun e => Region.binds md e && e.on == x)
/-- The Bool over a region: its lexical order may be walked, and the last operation comes up when nothing else is left. -/
def lexL (md : Region.Mode) (ops : Array Oper) (last : Nat) : Nat → Nat → Array Bool → Bool
  | 0, k, listed => Region.ready md ops listed == [k] && (Region.ready md ops (listed.setIfInBounds k true)).isEmpty
  | fuel + 1, k, listed => (Region.ready md ops listed).contains k && Region.free md ops listed k && (waitsAt md ops last k listed).isSome && lexL md ops last fuel (k + 1) (listed.setIfInBounds k true)

theorem anyL_lex (hs : Region.noSelect ops = true) : ∀ (l : List Oper) (k : Nat) (listed : Array Bool) (a : Act), (∀ j, j < l.length → l[j]? = ops[k + j]?) → last = k + l.length →
    lexL md ops last l.length k listed = true → wpQuiet P ops C (fun a' => ∀ w, C w → wpOp P ops Q last (fun a'' w'' => Q .normal a'' w'') a' w) l a → anyL P md ops C last Q (l.length + 1) listed a
  | [], k, listed, a, _, hk, hB, h => by
    simp only [List.length_nil, Nat.add_zero] at hk
    subst hk
    simp only [List.length_nil, lexL, Bool.and_eq_true, beq_iff_eq, List.isEmpty_iff] at hB
    refine ⟨by rw [hB.1]; simp, fun i hi => ⟨fun e => ⟨hB.2, h⟩, fun e => ?_⟩⟩
    rw [hB.1] at hi
    simp at hi
    exact absurd hi e
  | o :: l, k, listed, a, hl, hk, hB, h => by
    have h0 : ops[k]? = some o := by simpa using (hl 0 (by simp)).symm
    simp only [List.length_cons, lexL, Bool.and_eq_true] at hB
    obtain ⟨⟨⟨hr, hf⟩, hwt⟩, hB'⟩ := hB
    obtain ⟨x, hxw⟩ := Option.isSome_iff_exists.1 hwt
    have hxp := List.find?_some hxw
    simp only [Bool.and_eq_true, Bool.not_eq_true'] at hxp
    obtain ⟨⟨hx1, hx2⟩, hx3⟩ := hxp
    have hst : qOp P ops C k (wpQuiet P ops C (fun a' => ∀ w, C w → wpOp P ops Q last (fun a'' w'' => Q .normal a'' w'') a' w) l) a := by unfold qOp; simp only [h0]; exact h
    obtain ⟨v, hy, hK⟩ := yieldsIn_of_qOp h0 hst
    have hkl : k < last := by rw [hk]; simp
    refine anyL_take (x := x) h0 (Region.noSelect_spec hs) ?_ (fun oL hoL => ?_) (l.length + 1) listed a hx1 (Region.free_spec h0 hf) (by simpa using hr) hy
      (anyL_lex hs l (k + 1) _ _ (fun j hj => by have := hl (j + 1) (by simp; omega); simpa [Nat.add_assoc, Nat.add_comm 1 j] using this) (by rw [hk]; simp; omega) hB' hK)
    · simp only [Bool.or_eq_true, beq_iff_eq] at hx2
      rcases hx2 with h1 | h1
      · exact Or.inl h1
      · right
        cases hox : ops[x]? with
        | none => rw [hox] at h1; cases h1
        | some ox =>
          rw [hox] at h1
          simp only [List.any_eq_true, Bool.and_eq_true, beq_iff_eq] at h1
          obtain ⟨e, he, h2, h3⟩ := h1
          exact ⟨ox, rfl, e, by simpa using he, h2, h3⟩
    · rw [hoL] at hx3
      simp only [List.any_eq_true, Bool.and_eq_true, beq_iff_eq] at hx3
      obtain ⟨e, he, h2, h3⟩ := hx3
      exact ⟨e, by simpa using he, h2, h3⟩

/-- All but the last. -/
def initL : List Oper → List Oper
  | [] => []
  | [_] => []
  | o :: o' :: l => o :: initL (o' :: l)
/-- The last alone. -/
def endL : List Oper → List Oper
  | [] => []
  | [o] => [o]
  | _ :: o' :: l => endL (o' :: l)
theorem init_end : ∀ l : List Oper, l = initL l ++ endL l
  | [] => rfl
  | [_] => rfl
  | o :: o' :: l => by
    have := init_end (o' :: l)
    simp only [initL, endL, List.cons_append]
    rw [← this]
theorem end_one : ∀ l : List Oper, l ≠ [] → ∃ o, endL l = [o]
  | [], h => absurd rfl h
  | [o], _ => ⟨o, rfl⟩
  | _ :: o' :: l, _ => end_one (o' :: l) (by simp)

theorem wp_region_last {id : Nat} {a : Act} {w : World} {l : List Oper} (hm : P.follows .mixedOrders = true) (hne : l ≠ []) (hs : Region.noSelect l.toArray = true)
    (hB : lexL .any l.toArray (l.length - 1) (l.length - 1) 0 (Array.replicate l.length false) = true)
    (h : wpQuiet P l.toArray (fun w' => ∃ u : Cls w, w' = u.it) (fun a' => ∀ w', (∃ u : Cls w, w' = u.it) → wpList P l.toArray Q (endL l) a' w') (initL l) a) : (Code.region id l.toArray true).wp P Q a w := by
  obtain ⟨o, ho⟩ := end_one l hne
  have hsp := init_end l
  rw [ho] at hsp
  have hlen : (initL l).length = l.length - 1 := by have := congrArg List.length hsp; simp at this; omega
  have hpos : l.length = (initL l).length + 1 := by have := congrArg List.length hsp; simpa using this
  have hget : ∀ j, j < (initL l).length → (initL l)[j]? = l.toArray[0 + j]? := fun j hj => by
    rw [Nat.zero_add, List.getElem?_toArray, hsp, List.getElem?_append_left (by simpa [← hsp] using hj)]
    rw [← hsp]
  have hlast : l.toArray[l.length - 1]? = some o := by
    have h1 : (initL l ++ [o])[(initL l).length]? = some o := by simp
    rw [← hsp] at h1
    rw [List.getElem?_toArray, ← hlen]
    exact h1
  refine wp_region_any hm ?_
  have key := any_of_L (P := P) (md := .any) (ops := l.toArray) (C := fun w' => ∃ u : Cls w, w' = u.it) (last := l.length - 1) (Q := Q) ((initL l).length + 1) (Array.replicate l.length false) a { w with drawn := w.drawn + 1 }
    ⟨⟨_, (Below.refl w.heap.size w).drew⟩, rfl⟩
    (anyL_lex hs (initL l) 0 _ a hget (by omega) (by rw [hlen]; exact hB) (by
      have e1 : (fun a' => ∀ w', (∃ u : Cls w, w' = u.it) → wpList P l.toArray Q (endL l) a' w') = (fun a' => ∀ w', (∃ u : Cls w, w' = u.it) → wpOp P l.toArray Q (l.length - 1) (fun a'' w'' => Q .normal a'' w'') a' w') := by
        funext a'
        rw [ho]
        simp only [wpOp, hlast, wpList]
      rw [← e1]
      exact h))
  rw [← hpos] at key
  simpa using key
end
end Go.Proofs.YtgkebobmfagklaaGreat

namespace Go.Proofs.YtgkebobmfagklaaGreat
open Go.RowKit

theorem blk2 {w : World} {B : Nat} {x y : Value} {t : TypeId} (h : w.heap[B]? = some (.cells #[x, y] t (0, 0))) : w.cell? ⟨B, 0, none⟩ = some x ∧ w.cell? ⟨B, 1, none⟩ = some y ∧ ∀ j, w.frozen? ⟨B, j, none⟩ = false :=
  ⟨by rw [cell_of_row w B 0 _ _ _ h]; rfl, by rw [cell_of_row w B 1 _ _ _ h]; rfl, fun j => frozen_of_row w B j _ _ h⟩
theorem blk2_after {W w' : World} {x y : Value} {t : TypeId} (hb : Below (W.alloc (.cells #[x, y] t)).heap.size (W.alloc (.cells #[x, y] t)) w') : w'.heap[W.heap.size]? = some (.cells #[x, y] t (0, 0)) :=
  (hb.block W.heap.size (by simp)).trans (heap_alloc_new W _)
theorem blk2_after_drew {W w' : World} {x y : Value} {t : TypeId} (hb : Below (W.alloc (.cells #[x, y] t)).drew.heap.size (W.alloc (.cells #[x, y] t)).drew w') : w'.heap[W.heap.size]? = some (.cells #[x, y] t (0, 0)) :=
  blk2_after ⟨hb.os, hb.tape, hb.output, hb.size, hb.block⟩
theorem blk2_after2 {W w' : World} {x y : Value} {t : TypeId} (hb : Below ((W.alloc (.cells #[x, y] t)).alloc (.cells #[x, y] t)).heap.size ((W.alloc (.cells #[x, y] t)).alloc (.cells #[x, y] t)) w') :
    w'.heap[W.heap.size]? = some (.cells #[x, y] t (0, 0)) ∧ w'.heap[W.heap.size + 1]? = some (.cells #[x, y] t (0, 0)) := by
  refine ⟨(hb.block W.heap.size (by simp; omega)).trans ((Below.heap_alloc _ _ _ (by simp)).trans (heap_alloc_new W _)), ?_⟩
  have h := blk2_after hb
  rwa [World.size_alloc] at h
theorem blk2_kept {W w' : World} {B : Nat} {x y : Value} {t : TypeId} (h : W.heap[B]? = some (.cells #[x, y] t (0, 0))) (hb : Below W.heap.size W w') : w'.heap[B]? = some (.cells #[x, y] t (0, 0)) :=
  (hb.block B (lt_of_block h)).trans h
theorem blk2_set0 {w : World} {B : Nat} {x y : Value} {t : TypeId} (h : w.heap[B]? = some (.cells #[x, y] t (0, 0))) (u : Value) : (w.setCell ⟨B, 0, none⟩ u).heap[B]? = some (.cells #[u, y] t (0, 0)) := by
  rw [heap_setCell_same w B 0 _ _ _ h]; rfl
theorem blk2_set1 {w : World} {B : Nat} {x y : Value} {t : TypeId} (h : w.heap[B]? = some (.cells #[x, y] t (0, 0))) (u : Value) : (w.setCell ⟨B, 1, none⟩ u).heap[B]? = some (.cells #[x, u] t (0, 0)) := by
  rw [heap_setCell_same w B 1 _ _ _ h]; rfl

theorem owns_base {w : World} {base e size n : Nat} {v : Value} {xs : List Value} (h : w.ownsRow base e size v n xs) : ∀ k, v.ownBlock = some k → base ≤ k := by
  intro k hk
  rcases h.2 with ⟨rfl, _⟩ | ⟨g, cap, cur, rfl, hg, _⟩
  · simp [Value.ownBlock] at hk
  · simp [Value.ownBlock] at hk; omega
theorem owns_empty {w : World} {base e size : Nat} (hb : base ≤ w.heap.size) : (w.alloc (.cells #[] e)).ownsRow base e size (.slice (some ⟨w.heap.size, 0, none⟩) 0 0) 0 [] := by
  have h := World.ownsRow_lit (base := base) (e := e) (size := size) w #[] 0 hb (by unfold maxLen; omega) (by simp)
  exact h
theorem two_new (w : World) (x y : Value) (t : TypeId) : ∀ (j : Nat) (u : Value), [x, y][j]? = some u → (w.alloc (.cells #[x, y] t)).cell? ((⟨w.heap.size, 0, none⟩ : Addr).add j) = some u := by
  intro j u hj
  match j, hj with
  | 0, hj => simp at hj; subst hj; simp [Addr.add, go_sem]
  | 1, hj => simp at hj; subst hj; simp [Addr.add, go_sem]
theorem owns_below {w w' : World} {base e size n : Nat} {v : Value} {xs : List Value} (h : w.ownsRow base e size v n xs) (hb : Below w.heap.size w w') : w'.ownsRow base e size v n xs :=
  ⟨h.1, h.2.imp id fun ⟨g, cap, cur, h1, h2, h3, h4⟩ => ⟨g, cap, cur, h1, h2, (hb.block g (lt_of_block h3)).trans h3, h4⟩⟩
theorem owns_set {w : World} {base e size n : Nat} {v : Value} {xs : List Value} (h : w.ownsRow base e size v n xs) {B : Nat} (hB : ∀ k, v.ownBlock = some k → k ≠ B) (j : Nat) (u : Value) : (w.setCell ⟨B, j, none⟩ u).ownsRow base e size v n xs :=
  ⟨h.1, h.2.imp id fun ⟨g, cap, cur, h1, h2, h3, h4⟩ => ⟨g, cap, cur, h1, h2, by rw [heap_setCell_other w ⟨B, j, none⟩ g u (hB g (by rw [h1]; rfl))]; exact h3, h4⟩⟩
theorem owns_lt {w : World} {base e size n : Nat} {v : Value} {xs : List Value} (h : w.ownsRow base e size v n xs) : ∀ k, v.ownBlock = some k → k < w.heap.size := by
  intro k hk
  rcases h.2 with ⟨rfl, _⟩ | ⟨g, cap, cur, rfl, _, h3, _⟩
  · simp [Value.ownBlock] at hk
  · simp [Value.ownBlock] at hk; subst hk; exact lt_of_block h3

/-- The slice of a row that is not empty. -/
theorem owns_some {w : World} {base e size n : Nat} {v : Value} {xs : List Value} (h : w.ownsRow base e size v n xs) (hn : 0 < n) : ∃ g cap, v = .slice (some ⟨g, 0, none⟩) n cap ∧ base ≤ g ∧ g < w.heap.size := by
  rcases h.2 with ⟨_, h0⟩ | ⟨g, cap, cur, rfl, hg, hh, _⟩
  · omega
  · exact ⟨g, cap, rfl, hg, lt_of_block hh⟩
end Go.Proofs.YtgkebobmfagklaaGreat

namespace Go.Proofs.YtgkebobmfagklaaGreat
open Go.RowKit

/-- The row when j ticks ahead of the last one are done. -/
def backL (q s fr b : Int) (l : List Stp) (n j : Nat) : List (Int × Int) := (List.range (n + 1)).map fun i => if n - j ≤ i then bwdS q s fr b l n (n - i) else fwdS q s fr b l i

theorem backL_length (q s fr b : Int) (l : List Stp) (n j : Nat) : (backL q s fr b l n j).length = n + 1 := by simp [backL]
theorem backL_get (q s fr b : Int) (l : List Stp) (n j i : Nat) (h : i < n + 1) : (backL q s fr b l n j)[i]? = some (if n - j ≤ i then bwdS q s fr b l n (n - i) else fwdS q s fr b l i) := by simp [backL, h]
theorem backL_zero (q s fr b : Int) (l : List Stp) (n : Nat) : backL q s fr b l n 0 = fwdL q s fr b l (n + 1) := by
  unfold backL fwdL
  apply List.map_congr_left
  intro i hi
  have hi' := List.mem_range.1 hi
  by_cases h : n - 0 ≤ i
  · have e : i = n := by omega
    rw [if_pos h, e, Nat.sub_self]; rfl
  · rw [if_neg h]
theorem backL_all {q s fr b : Int} {l : List Stp} (h : spanB q s fr b l = true) : backL q s fr b l l.length l.length = spansL q s fr b l := by
  unfold backL spansL
  rw [if_pos h]
  apply List.map_congr_left
  intro i _
  rw [if_pos (by omega)]
theorem backL_now (q s fr b : Int) (l : List Stp) (n j : Nat) (h : j < n) : (backL q s fr b l n j)[n - (j + 1)]? = some (fwdS q s fr b l (n - (j + 1))) := by
  rw [backL_get _ _ _ _ _ _ _ _ (by omega), if_neg (by omega)]
theorem backL_next (q s fr b : Int) (l : List Stp) (n j : Nat) (h : j < n) : (backL q s fr b l n j)[n - (j + 1) + 1]? = some (bwdS q s fr b l n j) := by
  rw [backL_get _ _ _ _ _ _ _ _ (by omega), if_pos (by omega)]
  congr 2
  omega
theorem backL_succ (q s fr b : Int) (l : List Stp) (n j : Nat) (h : j < n) : backL q s fr b l n (j + 1) = (backL q s fr b l n j).set (n - (j + 1)) (bwdS q s fr b l n (j + 1)) := by
  apply List.ext_getElem?
  intro i
  by_cases hi : i < n + 1
  · rw [backL_get _ _ _ _ _ _ _ _ hi]
    by_cases e : n - (j + 1) = i
    · rw [← e, List.getElem?_set_self (by rw [backL_length]; omega), if_pos (by omega)]
      congr 2
      omega
    · rw [List.getElem?_set_ne e, backL_get _ _ _ _ _ _ _ _ hi]
      by_cases h2 : n - j ≤ i
      · rw [if_pos h2, if_pos (by omega)]
      · rw [if_neg h2, if_neg (by omega)]
  · rw [List.getElem?_eq_none (by rw [backL_length]; omega), List.getElem?_eq_none (by rw [List.length_set, backL_length]; omega)]

theorem spanCells_set : ∀ (xs : List (Int × Int)) (i : Nat) (x : Int × Int), spanCells (xs.set i x) = ((spanCells xs).set (i * 2) (.int .i64 x.1)).set (i * 2 + 1) (.int .i64 x.2)
  | [], i, x => by simp [spanCells]
  | y :: ys, 0, x => by simp [spanCells]
  | y :: ys, i + 1, x => by
    have ih := spanCells_set ys i x
    have e : ∀ zs : List (Int × Int), spanCells (y :: zs) = .int .i64 y.1 :: .int .i64 y.2 :: spanCells zs := fun zs => by simp [spanCells]
    rw [List.set_cons_succ, e, e, ih, show (i + 1) * 2 = i * 2 + 1 + 1 by omega]
    simp

/-- A store into a row that a call owns. -/
theorem owns_put {w : World} {base e size n g cap : Nat} {xs : List Value} (h : w.ownsRow base e size (.slice (some ⟨g, 0, none⟩) n cap) n xs) {j : Nat} (_hj : j < n * size) (u : Value) :
    (w.setCell ⟨g, j, none⟩ u).ownsRow base e size (.slice (some ⟨g, 0, none⟩) n cap) n (xs.set j u) := by
  refine ⟨by rw [List.length_set]; exact h.1, ?_⟩
  rcases h.2 with ⟨h0, _⟩ | ⟨g', cap', cur, h1, h2, h3, h4, h5, h6, h7⟩
  · cases h0
  · simp only [Value.slice.injEq, Option.some.injEq, Addr.mk.injEq, and_true, true_and] at h1
    obtain ⟨rfl, rfl⟩ := h1
    refine Or.inr ⟨g, cap, _, rfl, h2, heap_setCell_same w g j cur e u h3, h4, h5, by rw [Array.size_setIfInBounds]; exact h6, ?_⟩
    rw [← h7, Array.toList_setIfInBounds, List.take_set]
end Go.Proofs.YtgkebobmfagklaaGreat

namespace Go.Proofs.YtgkebobmfagklaaGreat
open Go.RowKit

theorem max_any (a b : Int) (w : World) : Calls Tryz.prog 71 #[.int .i64 a, .int .i64 b] w fun e w' => e = .returned (.int .i64 (mxB a b)) ∧ w' = w := by
  by_cases h : b < a
  · have HE : Hid (mxB a b = a) := by show _ = _; unfold mxB; rw [if_pos h]
    go_enter Tryz.func71, Tryz.ntmps71
    go_wp2
    go_ret
    exact ⟨by rw [HE.out]; rfl, rfl⟩
  · have HE : Hid (mxB a b = b) := by show _ = _; unfold mxB; rw [if_neg h]
    go_enter Tryz.func71, Tryz.ntmps71
    go_wp2
    go_ret
    exact ⟨by rw [HE.out]; rfl, rfl⟩
theorem min_any (a b : Int) (w : World) : Calls Tryz.prog 72 #[.int .i64 a, .int .i64 b] w fun e w' => e = .returned (.int .i64 (mnB a b)) ∧ w' = w := by
  by_cases h : a < b
  · have HE : Hid (mnB a b = a) := by show _ = _; unfold mnB; rw [if_pos h]
    go_enter Tryz.func72, Tryz.ntmps72
    go_wp2
    go_ret
    exact ⟨by rw [HE.out]; rfl, rfl⟩
  · have HE : Hid (mnB a b = b) := by show _ = _; unfold mnB; rw [if_neg h]
    go_enter Tryz.func72, Tryz.ntmps72
    go_wp2
    go_ret
    exact ⟨by rw [HE.out]; rfl, rfl⟩

theorem span_info : (Tryz.prog.info? 66).map (fun i => (i.zero, i.size, i.bytes)) = some (some (.agg #[.int .i64 0, .int .i64 0]), 2, 16) := by kernel_rfl

set_option maxRecDepth 20000 in
set_option maxHeartbeats 4000000 in
theorem spansS_wide (q s fr b : Int) (a : Option Addr) (b0 o cap : Nat) (l : List Stp) (w : World) (hs : StepsAt w a b0 o l) (hp : Wide q s fr b l) :
    Calls Tryz.prog 51 #[.agg #[.int .i64 q, .int .i64 s, .slice a l.length cap, .int .i64 fr, .int .i64 b]] w
      fun e w' => ∃ v, e = .returned (.tuple #[v, .bool (spanB q s fr b l)]) ∧ w'.ownsRow w.heap.size 66 2 v (spansL q s fr b l).length (spanCells (spansL q s fr b l)) ∧ Below w.heap.size w w' := by
  obtain ⟨i0, hi, hz0, hz1, hz2⟩ := info_parts span_info
  have HL := hp.len
  have hl : l.length ≤ 1048576 := by omega
  have HK := hp.kind
  go_enter Tryz.func51, Tryz.ntmps51
  go_wp2
  go_loopw [4, 6] (fun v u wr => ∃ k : Nat, k ≤ l.length + 1 ∧ u = .int .i64 k ∧ BoxP w wr q s fr b (.slice a l.length cap) ∧ wr.ownsRow (w.heap.size + 1) 66 2 v k (spanCells (fwdL q s fr b l k)) ∧ fwdTo q s fr b l k = true) (fun _ u _ => l.length + 1 - (intOf u).toNat)
  case atStart =>
    refine ⟨0, Nat.zero_le _, rfl, (BoxP.new w q s fr b _ _).keep ((Below.refl _ _).alloc (by simp) _), ?_, rfl⟩
    have h0 := owns_empty (base := w.heap.size + 1) (e := 66) (size := 2) (w := w.alloc (.cells #[.int .i64 q, .int .i64 s, .slice a l.length cap, .int .i64 fr, .int .i64 b] 35)) (by simp)
    rw [World.size_alloc] at h0
    exact h0
  case round =>
    obtain ⟨k, hk, rfl, hB, hown, hgood⟩ := hrel
    have HG : Hid (fwdTo q s fr b l k = true) := hgood
    clear hgood
    by_cases hlt : k < l.length + 1
    · have p0 := hB.p0
      have p1 := hB.p1
      have p2 := hB.p2
      have p3 := hB.p3
      have p4 := hB.p4
      have pl := hB.lt
      have k0 : (0 : Int) ≤ (k : Int) := by omega
      have k1 : (k : Int) ≤ (l.length : Int) := by omega
      have hS0 := hs.below hB.old hs.lt
      have hS : ∀ W, Below wr.heap.size wr W → StepsAt W a b0 o l := fun W h => hS0.below h hS0.lt
      have hR := Below.refl wr.heap.size wr
      go_wp2
      go_cut [7] (fun s7 wc => ∃ B, s7 = .pointer (some ⟨B, 0, none⟩) ∧ wr.heap.size ≤ B ∧ Below wr.heap.size wr wc ∧ wc.heap[B]? = some (.cells #[.int .i64 (lowB fr l k), .int .i64 (highB b l k)] 66 (0, 0)))
      case first =>
        go_region_held3 (fun w' => w'.cell? ⟨w.heap.size, 0, none⟩ = some (.int .i64 q) ∧ w'.cell? ⟨w.heap.size, 1, none⟩ = some (.int .i64 s) ∧ w'.cell? ⟨w.heap.size, 2, none⟩ = some (.slice a l.length cap) ∧ w'.cell? ⟨w.heap.size, 3, none⟩ = some (.int .i64 fr) ∧ w'.cell? ⟨w.heap.size, 4, none⟩ = some (.int .i64 b))
          (simp [go_sem, World.cell?_alloc_lt, *])
          (first
            | (go_at_call 69; refine (low_any _ _ _ _ _ b0 o _ _ k _ hl (hS _ ?_)).mono ?_; (first | exact hR.drew | exact hR.drew.alloc (Nat.le_refl _) _); rintro e w2 ⟨rfl, hb2⟩; have hb02 : Below wr.heap.size wr w2 := (by first | exact hR.drew.trans hb2 | exact (hR.drew.alloc (Nat.le_refl _) _).trans (hb2.mono (by simp))); have y0 : ∀ j, w2.cell? ⟨w.heap.size, j, none⟩ = wr.cell? ⟨w.heap.size, j, none⟩ := fun j => hb02.cell (p := ⟨w.heap.size, j, none⟩) pl; have z2 : w.heap.size < w2.heap.size := Nat.lt_of_lt_of_le pl hb02.size; (first | (have T2 : w2.heap[wr.heap.size]? = some (.cells #[.int .i64 0, .int .i64 0] 66 (0, 0)) := blk2_after hb2; obtain ⟨t20, t21, t22⟩ := blk2 T2) | (have T2 : w2.heap[wr.heap.size]? = some (.cells #[.int .i64 0, .int .i64 0] 66 (0, 0)) := blk2_after_drew hb2; obtain ⟨t20, t21, t22⟩ := blk2 T2) | skip))
            | (go_at_call 70; refine (high_any _ _ _ _ _ b0 o _ _ k _ hl (hS _ ?_)).mono ?_; (first | exact hb02 | exact hb02.alloc hb02.size _); rintro e w3 ⟨rfl, hb3⟩; have hb03 : Below wr.heap.size wr w3 := (by first | exact hb02.trans (hb3.mono hb02.size) | exact (hb02.alloc hb02.size _).trans (hb3.mono (by have := hb02.size; simp; omega))); have y1 : ∀ j, w3.cell? ⟨w.heap.size, j, none⟩ = wr.cell? ⟨w.heap.size, j, none⟩ := fun j => hb03.cell (p := ⟨w.heap.size, j, none⟩) pl; have z3 : w.heap.size < w3.heap.size := Nat.lt_of_lt_of_le pl hb03.size; (first | (have T3 := blk2_kept T2 hb3; obtain ⟨t30, t31, t32⟩ := blk2 T3) | (have T3 := blk2_after hb3; obtain ⟨t30, t31, t32⟩ := blk2 T3) | (have hw3 : Below w2.heap.size w2 w3 := hb3))))
        · go_wp2
          go_meet
          case rel => exact ⟨w3.heap.size, rfl, hb03.size, hb03.alloc hb03.size _, heap_alloc_new w3 _⟩
        · go_wp2
          go_meet
          case rel => exact ⟨w2.heap.size, rfl, hb02.size, (hb03.setCell (p := ⟨w2.heap.size, 0, none⟩) hb02.size _).setCell (p := ⟨w2.heap.size, 1, none⟩) hb02.size _, blk2_set1 (blk2_set0 T3 _) _⟩
        · go_wp2
          go_meet
          case rel => exact ⟨wr.heap.size, rfl, Nat.le_refl _, (hb03.setCell (p := ⟨wr.heap.size, 0, none⟩) (Nat.le_refl _) _).setCell (p := ⟨wr.heap.size, 1, none⟩) (Nat.le_refl _) _, blk2_set1 (blk2_set0 T3 _) _⟩
      case rest =>
        clear p0 p1 p2 p3 p4 hS hR
        obtain ⟨B, rfl, hBs, hbc, hblk⟩ := hcut
        have hBc := hB.below hbc
        have hownc := owns_below hown hbc
        have hBlt := lt_of_block hblk
        have hBne : ∀ j, u4.ownBlock = some j → j ≠ B := fun j hj => by have := owns_lt hown j hj; omega
        go_upto_if 26 with (fail)
        go_cut [] (fun wd => Below wr.heap.size wr wd ∧ wd.heap[B]? = some (.cells #[.int .i64 (fwdS q s fr b l k).1, .int .i64 (fwdS q s fr b l k).2] 66 (0, 0)))
        case first =>
          rcases Nat.eq_zero_or_pos k with hk0 | hk0
          · subst hk0
            go_wp2
            go_meet
            case rel => exact ⟨hbc, hblk⟩
          · obtain ⟨m, rfl⟩ : ∃ m, k = m + 1 := ⟨k - 1, by omega⟩
            have hml : m < l.length := by omega
            obtain ⟨g, ocap, rfl, hg1, hg2⟩ := owns_some hown (by omega)
            have hx0 := (hownc.cellAt (m * 2) (by omega)).trans (spanCells_get _ m _ (fwdL_get q s fr b l (m + 1) m (by omega))).1
            have hx1 := (hownc.cellAt (m * 2 + 1) (by omega)).trans (spanCells_get _ m _ (fwdL_get q s fr b l (m + 1) m (by omega))).2
            obtain ⟨c0, c1, cf⟩ := blk2 hblk
            have p0 := hBc.p0
            have p1 := hBc.p1
            have p2 := hBc.p2
            have p3 := hBc.p3
            have p4 := hBc.p4
            have pl := hBc.lt
            have r1 := hp.fwd_range m
            have r2 := fwdTo_at HG.out (show m < m + 1 by omega)
            have hgc : g < wc.heap.size := Nat.lt_of_lt_of_le hg2 hbc.size
            obtain ⟨f1, hf1⟩ : ∃ f1, (fwdS q s fr b l m).1 = f1 := ⟨_, rfl⟩
            obtain ⟨f2, hf2⟩ : ∃ f2, (fwdS q s fr b l m).2 = f2 := ⟨_, rfl⟩
            have F1 : Hid ((fwdS q s fr b l m).1 = f1) := hf1
            have F2 : Hid ((fwdS q s fr b l m).2 = f2) := hf2
            rw [hf1] at hx0 r1 r2
            rw [hf2] at hx1 r1 r2
            clear hf1 hf2
            have wm : IntKind.i64.wrap (m : Int) = (m : Int) := by rw [IntKind.wrap_i64]; omega
            have wf : IntKind.i64.wrap (f1 + q) = f1 + q := by rw [IntKind.wrap_i64]; omega
            have m0 : (0 : Int) ≤ (m : Int) := by omega
            have m1 : (m : Int) < (m : Int) + 1 := by omega
            have qn := Cls.any wc
            have q0 := Cls.cell hBlt
            have q1 := Cls.cell hgc
            have q2 := Cls.cell pl
            go_wp2
            refine wp_region_last (by kernel_rfl) (by simp) (by kernel_rfl) (by kernel_rfl) ?_
            simp only [initL, endL]
            repeat (go_big_quiet_step ((go_at_call 71; exact Calls.cls_of_same (max_any _ _ _))))
            refine wpQuiet_nil ?_
            rintro _ ⟨u, rfl⟩
            have T1 := blk2_kept hblk u.same
            obtain ⟨t0, t1, tf⟩ := blk2 T1
            clear c0 c1 cf q0 q1 q2 qn p0 p1 p2 p3 p4 pl
            go_wp2
            have T2 := blk2_set0 T1 (.int .i64 (mxB (lowB fr l (m + 1)) (f1 + q)))
            have bu : Below wr.heap.size wr u.it := hbc.trans (u.same.mono hbc.size)
            have b8 : Below wr.heap.size wr (u.it.setCell ⟨B, 0, none⟩ (.int .i64 (mxB (lowB fr l (m + 1)) (f1 + q)))) := bu.setCell (p := ⟨B, 0, none⟩) hBs _
            clear T1 t0 t1 tf bu
            generalize u.it.setCell ⟨B, 0, none⟩ (.int .i64 (mxB (lowB fr l (m + 1)) (f1 + q))) = w8 at T2 b8 ⊢
            have hBc8 := hB.below b8
            have hown8 := owns_below hown b8
            have hx8 := (hown8.cellAt (m * 2 + 1) (by omega)).trans (spanCells_get _ m _ (fwdL_get q s fr b l (m + 1) m (by omega))).2
            rw [F2.out] at hx8
            clear hx0 hx1
            obtain ⟨c0, c1, cf⟩ := blk2 T2
            have p0 := hBc8.p0
            have p1 := hBc8.p1
            have p2 := hBc8.p2
            have p3 := hBc8.p3
            have p4 := hBc8.p4
            have pl := hBc8.lt
            have hg8 : g < w8.heap.size := Nat.lt_of_lt_of_le hg2 b8.size
            have hB8 : B < w8.heap.size := lt_of_block T2
            have mr := hp.most_range m
            obtain ⟨mo, hmo⟩ : ∃ mo, mostB s l m = mo := ⟨_, rfl⟩
            have MO : Hid (mostB s l m = mo) := hmo
            rw [hmo] at mr
            have wf2 : IntKind.i64.wrap (f2 + mo) = f2 + mo := by rw [IntKind.wrap_i64]; omega
            have qn := Cls.any w8
            have q0 := Cls.cell hB8
            have q1 := Cls.cell hg8
            have q2 := Cls.cell pl
            have hS8 : ∀ u : Cls w8, StepsAt u.it a b0 o l := fun u => (hs.below hBc8.old hs.lt).below u.same (hs.below hBc8.old hs.lt).lt
            have HM : ∀ (u : Cls w8), Calls Tryz.prog 73 #[.agg #[.int .i64 q, .int .i64 s, .slice a l.length cap, .int .i64 fr, .int .i64 b], .int .i64 (m : Int)] u.it fun e w' => e = .returned (.int .i64 mo) ∧ Below u.it.heap.size u.it w' := fun u => by
              have := most_any q s fr b a b0 o cap l m u.it hl (hS8 u) hml
              rwa [hmo] at this
            clear hmo hS8
            refine wp_region_last (by kernel_rfl) (by simp) (by kernel_rfl) (by kernel_rfl) ?_
            simp only [initL, endL]
            repeat (go_big_quiet_step (first | (go_at_call 73; exact Calls.cls_of (HM _)) | (go_at_call 72; exact Calls.cls_of_same (min_any _ _ _))))
            refine wpQuiet_nil ?_
            rintro _ ⟨u2, rfl⟩
            have T3 := blk2_kept T2 u2.same
            obtain ⟨t0, t1, tf⟩ := blk2 T3
            clear c0 c1 cf q0 q1 q2 qn p0 p1 p2 p3 p4 pl HM
            go_wp2
            go_meet
            case rel =>
              refine ⟨(b8.trans (u2.same.mono b8.size)).setCell (p := ⟨B, 1, none⟩) hBs _, ?_⟩
              have T4 := blk2_set1 T3 (.int .i64 (mnB (highB b l (m + 1)) (f2 + mo)))
              simp only [fwdS]
              rw [F1.out, F2.out, MO.out]
              exact T4
        case rest =>
          obtain ⟨hbd, hblkd⟩ := hcut
          have hBd := hB.below hbd
          have hownd := owns_below hown hbd
          obtain ⟨c0, c1, cf⟩ := blk2 hblkd
          clear hblk hbc hBc hownc
          cases hsm : someB (fwdS q s fr b l k) with
          | false =>
            have hgt : (fwdS q s fr b l k).2 < (fwdS q s fr b l k).1 := by simp [someB] at hsm; omega
            have HE : Hid (spanB q s fr b l = false) := by show _ = _; unfold spanB; rw [fwdTo_not hlt hsm]; rfl
            have HE2 : Hid (spansL q s fr b l = []) := by show _ = _; unfold spansL; rw [HE.out]; rfl
            have H0 : Hid ((wc.alloc (.cells #[] 66)).ownsRow w.heap.size 66 2 (.slice (some ⟨wc.heap.size, 0, none⟩) 0 0) 0 []) := owns_empty (by have := hBd.lt; omega)
            clear hsm
            go_wp2
            go_ret2
            exact ⟨_, by rw [HE.out]; rfl, by rw [HE2.out]; exact H0.out, hBd.old.alloc (by have := hBd.lt; omega) _⟩
          | true =>
            have hle : ¬ (fwdS q s fr b l k).2 < (fwdS q s fr b l k).1 := by simp [someB] at hsm; omega
            have G1 : Hid (fwdTo q s fr b l (k + 1) = true) := by show _ = _; rw [fwdTo_succ HG.out, hsm]
            clear hsm
            have hz := hBd.lt
            go_wp2_with (at_builtin; (refine wpList_append_own _ rfl _ _ 62 rfl (w.heap.size + 1) 66 i0 (.agg #[.int .i64 0, .int .i64 0]) 2 16 Tryz.underlying62 hi hz0 hz1 hz2 rfl (by decide) _ _ _ rfl (hownd.alloc _) ⟨wc.heap.size, 0, none⟩ 1 1 (spanC (fwdS q s fr b l k)) rfl rfl (two_new _ _ _ _) (by simp [Value.oneCell']) (by unfold maxLen; omega) (by omega) (by simp; omega) ?_); intro v' w1 hown' hgrow _)
            have hbel : Below (w.heap.size + 1) wr w1 := ((hbd.mono (by omega)).alloc (by omega) _).grown hgrow (by simp; omega) (owns_base hownd)
            refine ⟨⟨k + 1, by omega, by go_num, hB.keep hbel, ?_, G1.out⟩, by simp [intOf]; omega⟩
            rw [fwdL_succ, spanCells_snoc]
            exact hown'
    · obtain rfl : k = l.length + 1 := by omega
      obtain ⟨g, ocap, rfl, hg1, hg2⟩ := owns_some hown (by omega)
      rw [← backL_zero] at hown
      go_wp2
      go_loopw [8] (fun v wi => ∃ i : Nat, i ≤ l.length ∧ v = .int .i64 ((i : Int) - 1) ∧ BoxP w wi q s fr b (.slice a l.length cap) ∧ wi.ownsRow (w.heap.size + 1) 66 2 (.slice (some ⟨g, 0, none⟩) (l.length + 1) ocap) (l.length + 1) (spanCells (backL q s fr b l l.length (l.length - i)))) (fun v _ => (intOf v + 1).toNat)
      case atStart => exact ⟨l.length, Nat.le_refl _, rfl, hB, by rw [Nat.sub_self]; exact hown⟩
      case round =>
        clear hB hown hg2
        obtain ⟨i, hi', rfl, hB, hown⟩ := hrel
        rcases i with _ | m
        · have HE : Hid (spanB q s fr b l = true) := by show _ = _; rw [hp.span_fwd]; exact HG.out
          have HL2 : Hid ((spansL q s fr b l).length = l.length + 1) := by show _ = _; rw [← backL_all HE.out, backL_length]
          go_wp2
          go_ret2
          refine ⟨_, by rw [HE.out]; rfl, ?_, hB.old⟩
          rw [HL2.out, ← backL_all HE.out]
          refine ⟨hown.1, hown.2.imp id fun ⟨g, cap, cur, h1, h2, h3⟩ => ⟨g, cap, cur, h1, by omega, h3⟩⟩
        · have e0 : (((m + 1 : Nat) : Int) - 1) = (m : Int) := by omega
          rw [e0]
          obtain ⟨J, hJ, e1, e2, e3⟩ : ∃ J, J < l.length ∧ l.length - (m + 1) = J ∧ l.length - (J + 1) = m ∧ l.length - m = J + 1 := ⟨l.length - (m + 1), by omega, rfl, by omega, by omega⟩
          rw [e1] at hown
          have gn := backL_now q s fr b l l.length J hJ
          have gx := backL_next q s fr b l l.length J hJ
          rw [e2] at gn gx
          have x0 := (hown.cellAt (m * 2) (by omega)).trans (spanCells_get _ m _ gn).1
          have x1 := (hown.cellAt (m * 2 + 1) (by omega)).trans (spanCells_get _ m _ gn).2
          have y0 := (hown.cellAt ((m + 1) * 2) (by omega)).trans (spanCells_get _ (m + 1) _ gx).1
          have y1 := (hown.cellAt ((m + 1) * 2 + 1) (by omega)).trans (spanCells_get _ (m + 1) _ gx).2
          have r1 := hp.fwd_range m
          have r2 := fwdTo_at HG.out (show m < l.length + 1 by omega)
          have r3 := hp.bwd_in HG.out J (by omega)
          have r4 := hp.fwd_range (l.length - J)
          have r5 := hp.bwd_in HG.out (J + 1) (by omega)
          have BS : Hid (bwdS q s fr b l l.length (J + 1) = (mxB (fwdS q s fr b l m).1 ((bwdS q s fr b l l.length J).1 - mostB s l m), mnB (fwdS q s fr b l m).2 ((bwdS q s fr b l l.length J).2 - q))) := by
            show _ = _
            simp only [bwdS]
            rw [e2]
          have hle := r5.1
          rw [BS.out] at hle
          have hml : m < l.length := by omega
          have mr := hp.most_range m
          clear r5 gn gx
          obtain ⟨f1, hf1⟩ : ∃ f1, (fwdS q s fr b l m).1 = f1 := ⟨_, rfl⟩
          obtain ⟨f2, hf2⟩ : ∃ f2, (fwdS q s fr b l m).2 = f2 := ⟨_, rfl⟩
          obtain ⟨h1, hh1⟩ : ∃ h1, (bwdS q s fr b l l.length J).1 = h1 := ⟨_, rfl⟩
          obtain ⟨h2, hh2⟩ : ∃ h2, (bwdS q s fr b l l.length J).2 = h2 := ⟨_, rfl⟩
          obtain ⟨mo, hmo⟩ : ∃ mo, mostB s l m = mo := ⟨_, rfl⟩
          rw [hf1] at x0 r1 r2
          rw [hf2] at x1 r1 r2
          rw [hh1] at y0 r3
          rw [hh2] at y1 r3
          rw [hmo] at mr
          have BS2 : Hid (bwdS q s fr b l l.length (J + 1) = (mxB f1 (h1 - mo), mnB f2 (h2 - q))) := by
            show _ = _
            rw [BS.out, hf1, hf2, hh1, hh2, hmo]
          have hle2 : mxB f1 (h1 - mo) ≤ mnB f2 (h2 - q) := by
            have := hle
            simp only [hf1, hf2, hh1, hh2, hmo] at this
            exact this
          obtain ⟨n1, hn1⟩ : ∃ n1, mxB f1 (h1 - mo) = n1 := ⟨_, rfl⟩
          obtain ⟨n2, hn2⟩ : ∃ n2, mnB f2 (h2 - q) = n2 := ⟨_, rfl⟩
          rw [hn1, hn2] at hle2
          have BS3 : Hid (bwdS q s fr b l l.length (J + 1) = (n1, n2)) := by show _ = _; rw [BS2.out, hn1, hn2]
          have MX : ∀ (W : World), Calls Tryz.prog 71 #[.int .i64 f1, .int .i64 (h1 - mo)] W fun e w' => e = .returned (.int .i64 n1) ∧ w' = W := fun W => by rw [← hn1]; exact max_any _ _ _
          have MN : ∀ (W : World), Calls Tryz.prog 72 #[.int .i64 f2, .int .i64 (h2 - q)] W fun e w' => e = .returned (.int .i64 n2) ∧ w' = W := fun W => by rw [← hn2]; exact min_any _ _ _
          have wf1 : IntKind.i64.wrap (h1 - mo) = h1 - mo := by rw [IntKind.wrap_i64]; omega
          have wf2 : IntKind.i64.wrap (h2 - q) = h2 - q := by rw [IntKind.wrap_i64]; omega
          have wm : IntKind.i64.wrap ((m : Int) + 1) = (m : Int) + 1 := by rw [IntKind.wrap_i64]; omega
          have hS0 := hs.below hB.old hs.lt
          have HM : ∀ (u : Cls wr), Calls Tryz.prog 73 #[.agg #[.int .i64 q, .int .i64 s, .slice a l.length cap, .int .i64 fr, .int .i64 b], .int .i64 (m : Int)] u.it fun e w' => e = .returned (.int .i64 mo) ∧ Below u.it.heap.size u.it w' := fun u => by
            have := most_any q s fr b a b0 o cap l m u.it hl (hS0.below u.same hS0.lt) hml
            rwa [hmo] at this
          clear hle BS BS2 hf1 hf2 hh1 hh2 hn1 hn2 hS0 r4
          have p0 := hB.p0
          have p1 := hB.p1
          have p2 := hB.p2
          have p3 := hB.p3
          have p4 := hB.p4
          have pl := hB.lt
          have hgr : g < wr.heap.size := (hown.lt g rfl).2
          have m0 : (0 : Int) ≤ (m : Int) := by omega
          have m1 : (m : Int) < (l.length : Int) + 1 := by omega
          have m2 : (m : Int) + 1 < (l.length : Int) + 1 := by omega
          have m3 : (0 : Int) ≤ (m : Int) + 1 := by omega
          have qn := Cls.any wr
          have q1 := Cls.cell hgr
          have q2 := Cls.cell pl
          go_wp2
          refine wp_region_last (by kernel_rfl) (by simp) (by kernel_rfl) (by kernel_rfl) ?_
          simp only [initL, endL]
          repeat (go_big_quiet_step (first | (go_at_call 73; exact Calls.cls_of (HM _)) | (go_at_call 71; exact Calls.cls_of_same (MX _))))
          refine wpQuiet_nil ?_
          rintro _ ⟨u, rfl⟩
          have hownu := owns_below hown u.same
          have t0 := (hownu.cellAt (m * 2) (by omega)).trans ((hown.cellAt (m * 2) (by omega)).symm.trans x0)
          have tf := hownu.frozenAt
          clear q1 q2 qn HM MX
          go_wp2
          have bu : Below (w.heap.size + 1) wr u.it := u.same.mono (by omega)
          have b8 : Below (w.heap.size + 1) wr (u.it.setCell ⟨g, m * 2, none⟩ (.int .i64 n1)) := bu.setCell (p := ⟨g, m * 2, none⟩) hg1 _
          have hown8 := owns_put hownu (j := m * 2) (by omega) (.int .i64 n1)
          have hlen : (spanCells (backL q s fr b l l.length J)).length = (l.length + 1) * 2 := hown.1
          have z0 : ((spanCells (backL q s fr b l l.length J)).set (m * 2) (.int .i64 n1))[m * 2]? = some (.int .i64 n1) := List.getElem?_set_self (by omega)
          have z1 : ((spanCells (backL q s fr b l l.length J)).set (m * 2) (.int .i64 n1))[m * 2 + 1]? = some (.int .i64 f2) := by
            rw [List.getElem?_set_ne (by omega), ← hown.cellAt (m * 2 + 1) (by omega)]; exact x1
          have z2 : ((spanCells (backL q s fr b l l.length J)).set (m * 2) (.int .i64 n1))[(m + 1) * 2 + 1]? = some (.int .i64 h2) := by
            rw [List.getElem?_set_ne (by omega), ← hown.cellAt ((m + 1) * 2 + 1) (by omega)]; exact y1
          clear t0 tf hownu bu x0 x1 y0 y1 p0 p1 p2 p3 p4
          generalize u.it.setCell ⟨g, m * 2, none⟩ (.int .i64 n1) = w8 at hown8 b8 ⊢
          have hB8 := hB.keep b8
          have x1 := (hown8.cellAt (m * 2 + 1) (by omega)).trans z1
          have y1 := (hown8.cellAt ((m + 1) * 2 + 1) (by omega)).trans z2
          have p0 := hB8.p0
          have p1 := hB8.p1
          have pl8 := hB8.lt
          have hgr8 : g < w8.heap.size := (hown8.lt g rfl).2
          have qn := Cls.any w8
          have q1 := Cls.cell hgr8
          have q2 := Cls.cell pl8
          refine wp_region_last (by kernel_rfl) (by simp) (by kernel_rfl) (by kernel_rfl) ?_
          simp only [initL, endL]
          repeat (go_big_quiet_step ((go_at_call 72; exact Calls.cls_of_same (MN _))))
          refine wpQuiet_nil ?_
          rintro _ ⟨u2, rfl⟩
          have hownu2 := owns_below hown8 u2.same
          have t0 := (hownu2.cellAt (m * 2 + 1) (by omega)).trans z1
          have tf := hownu2.frozenAt
          clear q1 q2 qn MN
          go_wp2
          have b9 : Below (w.heap.size + 1) w8 (u2.it.setCell ⟨g, m * 2 + 1, none⟩ (.int .i64 n2)) := (u2.same.mono (by omega)).setCell (p := ⟨g, m * 2 + 1, none⟩) hg1 _
          have hown9 := owns_put hownu2 (j := m * 2 + 1) (by omega) (.int .i64 n2)
          have z3 : (((spanCells (backL q s fr b l l.length J)).set (m * 2) (.int .i64 n1)).set (m * 2 + 1) (.int .i64 n2))[m * 2]? = some (.int .i64 n1) := by
            rw [List.getElem?_set_ne (by omega)]; exact z0
          have z4 : (((spanCells (backL q s fr b l l.length J)).set (m * 2) (.int .i64 n1)).set (m * 2 + 1) (.int .i64 n2))[m * 2 + 1]? = some (.int .i64 n2) := List.getElem?_set_self (by rw [List.length_set]; omega)
          clear t0 tf hownu2 x1 y1 p0 p1
          generalize u2.it.setCell ⟨g, m * 2 + 1, none⟩ (.int .i64 n2) = w9 at hown9 b9 ⊢
          have hB9 := hB8.keep b9
          have x0 := (hown9.cellAt (m * 2) (by omega)).trans z3
          have x1 := (hown9.cellAt (m * 2 + 1) (by omega)).trans z4
          have hgr9 : g < w9.heap.size := (hown9.lt g rfl).2
          have RW : Hid (w9.ownsRow (w.heap.size + 1) 66 2 (.slice (some ⟨g, 0, none⟩) (l.length + 1) ocap) (l.length + 1) (spanCells (backL q s fr b l l.length (l.length - m)))) := by
            show World.ownsRow _ _ _ _ _ _ _
            rw [e3, backL_succ q s fr b l l.length J hJ, e2, BS3.out, spanCells_set]
            exact hown9
          have qn := Cls.any w9
          have q1 := Cls.cell hgr9
          clear z0 z1 z2 z3 z4 hown9 hown8 hown hlen
          refine wp_region_cls (by kernel_rfl) (by kernel_rfl) ?_
          repeat (go_big_quiet_step (fail))
          refine wpQuiet_nil ?_
          rintro _ ⟨u3, rfl⟩
          clear q1 qn
          go_wp2
          go_roundw
          case rel => exact ⟨m, by omega, by go_num, hB9.below u3.same, owns_below RW.out u3.same⟩
          case measure => simp [intOf]
end Go.Proofs.YtgkebobmfagklaaGreat

namespace Go.Proofs.YtgkebobmfagklaaGreat
open Go.RowKit

/-- The contract of the program's FlySpans. -/
def SpansSaid : Prop := ∀ (q s fr b : Int) (a : Option Addr) (b0 o cap : Nat) (l : List Stp) (w : World), l.length ≤ 1048576 → StepsAt w a b0 o l →
    Calls Tryz.prog 29 #[.agg #[.int .i64 q, .int .i64 s, .slice a l.length cap, .int .i64 fr, .int .i64 b]] w
      fun e w' => ∃ v, e = .returned (.tuple #[v, .bool (flyB q s fr b l)]) ∧ w'.ownsRow w.heap.size 66 2 v (flyL q s fr b l).length (spanCells (flyL q s fr b l)) ∧ Below w.heap.size w w'
end Go.Proofs.YtgkebobmfagklaaGreat

namespace Go.Proofs.YtgkebobmfagklaaGreat
open Go.RowKit

theorem step_info : (Tryz.prog.info? 59).map (fun i => (i.zero, i.size, i.bytes)) = some (some (.agg #[.int .i64 0, .int .i64 0, .int .i64 0, .int .i64 0, .int .i64 0, .int .i64 0, .bool false]), 7, 56) := by kernel_rfl

theorem step_size7 : (Tryz.prog.info? 59).map (·.size) = some 7 := by kernel_rfl
theorem step_size (s : Stp) : (Tryz.prog.info? 59).map (·.size) = some (Array.size #[Value.int .i64 s.x, .int .i64 s.y, .int .i64 s.lo, .int .i64 s.hi, .int .i64 s.fr, .int .i64 s.by_, .bool s.ho]) := step_size7
/-- A step stored whole. -/
theorem store_step {ops : Array Oper} {rest : List Oper} {op : Oper} {a : Act} {w : World} {Q : Exit → Act → World → Prop} (hgd : op.guard = none) (x y : Operand) (ho : op.op = .store 59 x y)
    (b o : Nat) (s : Stp) (hx : a.eval x = .pointer (some ⟨b, o, none⟩)) (hy : a.eval y = .agg #[.int .i64 s.x, .int .i64 s.y, .int .i64 s.lo, .int .i64 s.hi, .int .i64 s.fr, .int .i64 s.by_, .bool s.ho])
    (ht : w.there b o 7) (h : wpList Tryz.prog ops Q rest (a.put op.dst undef) (w.setCells b o s.cells)) : wpList Tryz.prog ops Q (op :: rest) a w :=
  wpList_store_mid hgd 59 x y ho b o _ hx hy ht (step_size s) s.one h
end Go.Proofs.YtgkebobmfagklaaGreat

namespace Go.Proofs.YtgkebobmfagklaaGreat
open Go.RowKit

theorem grown_set (W : World) (p : Addr) (v : Value) : W.grownBy (W.setCell p v) (some p.block) :=
  ⟨rfl, rfl, rfl, by simp [World.setCell], fun k _ hk => heap_setCell_other W p k v (fun e => hk (by rw [e]))⟩

theorem grown_over2 {a b c : World} {row : Option Nat} (h : a.grownBy b row) (k : b.grownBy c row) : a.grownBy c row :=
  ⟨k.os.trans h.os, k.tape.trans h.tape, k.output.trans h.output, Nat.le_trans h.size k.size, fun i hi hne => (k.block i (Nat.lt_of_lt_of_le hi h.size) hne).trans (h.block i hi hne)⟩

/-- The marks: numbers one behind another. -/
def markV (k0 : Int) (n : Nat) : List Value := (List.range n).map fun (j : Nat) => .int .i64 (k0 + (j : Int))
theorem markV_length (k0 : Int) (n : Nat) : (markV k0 n).length = n := by simp [markV]
theorem markV_get (k0 : Int) {n i : Nat} (h : i < n) : (markV k0 n)[i]? = some (.int .i64 (k0 + (i : Int))) := by simp [markV, h]
end Go.Proofs.YtgkebobmfagklaaGreat

namespace Go.Proofs.YtgkebobmfagklaaGreat
open Go.RowKit

theorem fbox_info : (Tryz.prog.info? 50).map (fun i => (i.zero, i.size, i.bytes)) = some (some (.agg #[.int .i64 0, .int .i64 0, .int .i64 0, .int .i64 0, .int .i64 0, .int .i64 0]), 6, 48) := by kernel_rfl
theorem rowC_snocF (l : List Bx) (s : Bx) : rowC (l ++ [s]) = rowC l ++ s.cells := by rw [rowC_append, rowC_one]
theorem six_newF (w : World) (s : Bx) (t : TypeId) : ∀ (j : Nat) (u : Value), s.cells[j]? = some u → (w.alloc (.cells #[.int .i64 s.x, .int .i64 s.y, .int .i64 s.lo, .int .i64 s.hi, .int .i64 s.in_, .int .i64 s.out] t)).cell? ((⟨w.heap.size, 0, none⟩ : Addr).add j) = some u := by
  intro j u hj
  match j, hj with
  | 0, hj => simp at hj; subst hj; simp [Addr.add, go_sem]
  | 1, hj => simp at hj; subst hj; simp [Addr.add, go_sem]
  | 2, hj => simp at hj; subst hj; simp [Addr.add, go_sem]
  | 3, hj => simp at hj; subst hj; simp [Addr.add, go_sem]
  | 4, hj => simp at hj; subst hj; simp [Addr.add, go_sem]
  | 5, hj => simp at hj; subst hj; simp [Addr.add, go_sem]

/-- What lies while the tube is laid: all that lay, the spans, the boxes up to now. -/
structure TbW (w wr : World) (N : Nat) (vs : Value) (F : List (Int × Int)) (v : Value) (m : List Bx) : Prop where
  old : Below w.heap.size w wr
  lt : N ≤ wr.heap.size
  sp : wr.ownsRow w.heap.size 66 2 vs F.length (spanCells F)
  spN : ∀ k, vs.ownBlock = some k → k < N
  own : wr.ownsRow N 50 6 v m.length (rowC m)
section
variable {w wr w' : World} {N : Nat} {vs v : Value} {F : List (Int × Int)} {m : List Bx}
theorem TbW.keep (h : TbW w wr N vs F v m) (hb : Below wr.heap.size wr w') : TbW w w' N vs F v m :=
  ⟨h.old.trans (hb.mono h.old.size), Nat.le_trans h.lt hb.size, owns_below h.sp hb, h.spN, owns_below h.own hb⟩
theorem TbW.push {v7 : Value} {t : Bx} (h : TbW w wr N vs F v m) (hN : w.heap.size ≤ N) (hg : wr.grownBy w' v.ownBlock) (ho : w'.ownsRow N 50 6 v7 (m.length + 1) (rowC m ++ t.cells)) : TbW w w' N vs F v7 (m ++ [t]) := by
  have hbase := owns_base h.own
  refine ⟨h.old.grown hg h.old.size (fun k e => by have := hbase k e; omega), Nat.le_trans h.lt hg.size, ?_, h.spN, ?_⟩
  · refine h.sp.kept hg ?_
    cases e : vs.ownBlock with
    | none => exact Or.inl rfl
    | some k => exact Or.inr (fun e2 => by have := h.spN k e; have := hbase k e2.symm; omega)
  · rw [rowC_snocF, List.length_append]
    exact ho
end
theorem spanCells_two' {F : List (Int × Int)} {k : Nat} (h : k < F.length) : (spanCells F)[k * 2]? = some (.int .i64 (F.getD k (0, 0)).1) ∧ (spanCells F)[k * 2 + 1]? = some (.int .i64 (F.getD k (0, 0)).2) :=
  spanCells_get F k _ (by rw [List.getD_eq_getElem?_getD, List.getElem?_eq_getElem h]; rfl)
theorem flyL_len {q s fr b : Int} {l : List Stp} (h : flyB q s fr b l = true) : (flyL q s fr b l).length = l.length + 1 := by
  unfold flyB at h
  obtain ⟨h1, h2⟩ := Bool.and_eq_true_iff.1 h
  unfold flyL spansL
  rw [if_pos h1, if_pos h2]
  simp
theorem fly_len {q s fr b : Int} {l : List Stp} (h : flyB q s fr b l = true) : l.length ≤ 40 := by
  unfold flyB at h
  have := path_len (Bool.and_eq_true_iff.1 h).1
  omega

set_option maxRecDepth 20000 in
set_option maxHeartbeats 4000000 in
theorem flyTubeI_any (hI : SpansSaid) (q s fr b : Int) (a : Option Addr) (b0 o cap : Nat) (l : List Stp) (w : World) (hl : l.length ≤ 1048576) (hs : StepsAt w a b0 o l) :
    Calls Tryz.prog 18 #[.agg #[.int .i64 q, .int .i64 s, .slice a l.length cap, .int .i64 fr, .int .i64 b]] w
      fun e w' => ∃ v, e = .returned v ∧ w'.ownsRow w.heap.size 50 6 v (tubeL q s fr b l).length (rowC (tubeL q s fr b l)) ∧ Below w.heap.size w w' := by
  obtain ⟨i0, hi, hz0, hz1, hz2⟩ := info_parts fbox_info
  have hr := fly_range q s fr b l
  have P0 := BoxP.new w q s fr b (.slice a l.length cap) 35
  go_enter Tryz.func18, Tryz.ntmps18
  go_wp2_with fail
  refine (hI _ _ _ _ _ b0 o _ _ _ hl (hs.below ((Below.refl _ _).alloc (Nat.le_refl _) _) hs.lt)).mono ?_
  rintro e w1 ⟨vs, rfl, hsp, hb1⟩
  have P1 := P0.below hb1
  have B1 : Below w.heap.size w w1 := ((Below.refl _ _).alloc (Nat.le_refl _) _).trans (hb1.mono (by simp))
  cases hf : flyB q s fr b l with
  | false =>
    have G : Hid (tubeL q s fr b l = []) := by show _ = _; unfold tubeL; rw [hf]; rfl
    go_wp2
    go_ret
    exact ⟨_, rfl, by rw [G.out]; exact World.ownsRow_nil _ _ _ _, B1⟩
  | true =>
    have G : Hid (tubeL q s fr b l = tubeTo (flyL q s fr b l) l l.length) := by show _ = _; unfold tubeL; rw [hf]; rfl
    have hF := flyL_len hf
    have h40 := fly_len hf
    obtain ⟨g, gc, rfl, hg1, hg2⟩ := owns_some hsp (by omega)
    rw [hF]
    generalize flyL q s fr b l = F at *
    have T1 : TbW w w1 w1.heap.size (.slice (some ⟨g, 0, none⟩) F.length gc) F (.slice none 0 0) (tubeTo F l 0) := ⟨B1, Nat.le_refl _, ⟨hsp.1, hsp.2.imp id fun ⟨g, cap, cur, h1, h2, h3⟩ => ⟨g, cap, cur, h1, Nat.le_trans (by simp) h2, h3⟩⟩, owns_lt hsp, World.ownsRow_nil _ _ _ _⟩
    have p2 := P1.p2
    go_wp2
    have hN : w.heap.size ≤ w1.heap.size := B1.size
    clear P0 P1 p2 hb1 B1 hsp
    generalize w1.heap.size = N at *
    go_loopw [5, 19] (fun v x wr => ∃ k : Nat, k ≤ l.length ∧ x = .int .i64 k ∧ TbW w wr N (.slice (some ⟨g, 0, none⟩) F.length gc) F v (tubeTo F l k)) (fun _ x _ => l.length - (intOf x).toNat)
    case atStart => exact ⟨0, Nat.zero_le _, rfl, T1⟩
    case round =>
      clear T1
      obtain ⟨k, hk, rfl, hT⟩ := hrel
      by_cases hlt : k < l.length
      · obtain ⟨t, ht⟩ : ∃ t, l[k]? = some t := ⟨l[k], List.getElem?_eq_getElem hlt⟩
        have hne : l ≠ [] := by intro e; subst e; simp at hlt
        obtain rfl := hs.here hne
        obtain ⟨c0, c1, c2, c3, c4, c5, c6⟩ := (hs.below hT.old hs.lt).seven ht
        have s0 := (hT.sp.cellAt (k * 2) (by omega)).trans (spanCells_two' (F := F) (k := k) (by omega)).1
        have s1 := (hT.sp.cellAt ((k + 1) * 2 + 1) (by omega)).trans (spanCells_two' (F := F) (k := k + 1) (by omega)).2
        have hgr := owns_lt hT.sp g rfl
        have k0 : (0 : Int) ≤ (k : Int) := by omega
        have k1 : (k : Int) < (l.length : Int) := by omega
        have k2 : (k : Int) + 1 < (l.length : Int) + 1 := by omega
        have k3 : (0 : Int) ≤ (k : Int) + 1 := by omega
        have k4 : (k : Int) < (l.length : Int) + 1 := by omega
        obtain ⟨hh1, hh2⟩ := hr (k + 1)
        have HB : Hid (tubeTo F l (k + 1) = tubeTo F l k ++ [⟨t.x, t.y, t.lo, t.hi, (F.getD k (0, 0)).1, (F.getD (k + 1) (0, 0)).2 - 1⟩]) := by
          show _ = _
          rw [tubeTo_succ]
          unfold tubeAt
          rw [List.getD_eq_getElem?_getD (l := l), ht]
          rfl
        have hlen := tubeTo_length F l k
        clear ht
        generalize hi1 : (F.getD k (0, 0)).1 = in1 at *
        generalize ho1 : (F.getD (k + 1) (0, 0)).2 = out1 at *
        clear hi1 ho1
        have wr1 : IntKind.i64.wrap (out1 - 1) = out1 - 1 := by rw [IntKind.wrap_i64]; omega
        go_wp2
        have T3 := ((hT.keep ((Below.refl wr.heap.size wr).alloc (Nat.le_refl _) (.cells #[.int .i64 t.x, .int .i64 t.y, .int .i64 t.lo, .int .i64 t.hi, .int .i64 t.fr, .int .i64 t.by_, .bool t.ho] 59))).keep ((Below.refl _ _).alloc (Nat.le_refl _) (.cells #[.int .i64 t.x, .int .i64 t.y, .int .i64 t.lo, .int .i64 t.hi, .int .i64 in1, .int .i64 (out1 - 1)] 50))).keep ((Below.refl _ _).drew)
        have hnw : ∀ (j : Nat) (u : Value), (Bx.cells ⟨t.x, t.y, t.lo, t.hi, in1, out1 - 1⟩)[j]? = some u → (((wr.alloc (.cells #[.int .i64 t.x, .int .i64 t.y, .int .i64 t.lo, .int .i64 t.hi, .int .i64 t.fr, .int .i64 t.by_, .bool t.ho] 59)).alloc (.cells #[.int .i64 t.x, .int .i64 t.y, .int .i64 t.lo, .int .i64 t.hi, .int .i64 in1, .int .i64 (out1 - 1)] 50)).drew).cell? ((⟨wr.heap.size + 1, 0, none⟩ : Addr).add j) = some u := by
          intro j u hj
          have := six_newF (wr.alloc (.cells #[.int .i64 t.x, .int .i64 t.y, .int .i64 t.lo, .int .i64 t.hi, .int .i64 t.fr, .int .i64 t.by_, .bool t.ho] 59)) ⟨t.x, t.y, t.lo, t.hi, in1, out1 - 1⟩ 50 j u hj
          rw [World.size_alloc] at this
          exact this
        have hvb := owns_lt hT.own
        have hNw := hT.lt
        go_region_held3 (fun w' => w'.cell? ⟨wr.heap.size, 0, none⟩ = some (.int .i64 t.x) ∧ w'.cell? ⟨wr.heap.size, 1, none⟩ = some (.int .i64 t.y) ∧ w'.cell? ⟨wr.heap.size, 2, none⟩ = some (.int .i64 t.lo) ∧ w'.cell? ⟨wr.heap.size, 3, none⟩ = some (.int .i64 t.hi) ∧ w'.cell? ⟨g, k * 2, none⟩ = some (.int .i64 in1))
          (simp [go_sem, World.cell?_alloc_lt, *])
          (first
            | (refine wp_append_own _ (.tmp 31) (.tmp 47) 47 rfl N 50 i0 (.agg #[.int .i64 0, .int .i64 0, .int .i64 0, .int .i64 0, .int .i64 0, .int .i64 0]) 6 48 Tryz.underlying47 hi hz0 hz1 hz2 rfl (by decide) u5 _ _ rfl T3.own ⟨wr.heap.size + 1, 0, none⟩ 1 1 (Bx.cells ⟨t.x, t.y, t.lo, t.hi, in1, out1 - 1⟩) rfl rfl hnw (by simp [Value.oneCell']) (by unfold maxLen; omega) (by omega) (by simp; omega) ?_; intro v7 w7 hown7 hgrow7 hnil7; have e0 : ∀ j, w7.cell? ⟨wr.heap.size, j, none⟩ = _ := (fun j => World.cell?_of_block (a := ⟨wr.heap.size, j, none⟩) (hgrow7.block wr.heap.size (by simp; omega) (fun e => by have := hvb _ e.symm; omega))); have e1 : ∀ j, w7.cell? ⟨g, j, none⟩ = _ := (fun j => World.cell?_of_block (a := ⟨g, j, none⟩) (hgrow7.block g (by simp; omega) (fun e => by have := hT.spN g rfl; have := owns_base hT.own _ e.symm; omega)))))
        go_wp2
        go_roundw
        case rel => exact ⟨k + 1, by omega, by go_num, by rw [HB.out]; exact T3.push hN hgrow7 hown7⟩
        case measure => simp [intOf]; omega
      · obtain rfl : k = l.length := by omega
        go_wp2
        go_ret
        obtain ⟨av, cv, rfl⟩ : ∃ a c, u5 = .slice a (tubeTo F l l.length).length c := by
          rcases hT.own.2 with ⟨rfl, h0⟩ | ⟨g, cap, cur, rfl, _⟩
          · exact ⟨none, 0, by rw [h0]⟩
          · exact ⟨_, _, rfl⟩
        refine ⟨_, rfl, ?_, hT.old⟩
        rw [G.out]
        exact ⟨hT.own.1, hT.own.2.imp id fun ⟨g, cap, cur, h1, h2, h3⟩ => ⟨g, cap, cur, h1, Nat.le_trans hN h2, h3⟩⟩
end Go.Proofs.YtgkebobmfagklaaGreat

namespace Go.Proofs.YtgkebobmfagklaaGreat
open Go.RowKit

/-- A box as a value. -/
abbrev Bx.val (s : Bx) : Value := .agg #[.int .i64 s.x, .int .i64 s.y, .int .i64 s.lo, .int .i64 s.hi, .int .i64 s.in_, .int .i64 s.out]
/-- A span lies in another one. -/
def liesB (a b c d : Int) : Bool := decide (a ≤ b) && (decide (c ≤ a) && decide (b ≤ d))
/-- Two spans have a number in common. -/
def meetB (a b c d : Int) : Bool := !decide (min b d < max a c)
/-- A box is ok. -/
def boxB (s : Bx) : Bool := inB s.x 0 15 && inB s.y 0 15 && inB s.lo 0 s.hi && decide (s.hi ≤ 6) && inB s.in_ 0 s.out && decide (s.out ≤ 10000)
/-- As the program asks it. -/
theorem boxB_lies (s : Bx) : boxB s = (liesB s.x s.x 0 15 && liesB s.y s.y 0 15 && liesB s.lo s.hi 0 6 && liesB s.in_ s.out 0 10000) := by
  rw [Bool.eq_iff_iff]; simp [boxB, liesB, inB]; omega
theorem boxB_iff (s : Bx) : boxB s = true ↔ 0 ≤ s.x ∧ s.x ≤ 15 ∧ 0 ≤ s.y ∧ s.y ≤ 15 ∧ 0 ≤ s.lo ∧ s.lo ≤ s.hi ∧ s.hi ≤ 6 ∧ 0 ≤ s.in_ ∧ s.in_ ≤ s.out ∧ s.out ≤ 10000 := by
  simp [boxB, inB]; omega
/-- Beside each other, on a level in common. -/
def besideB (a b : Bx) : Bool := inB (a.x - b.x) (-1) 1 && inB (a.y - b.y) (-1) 1 && decide (a.lo ≤ b.hi) && decide (b.lo ≤ a.hi)
/-- Too near, of two that are ok. -/
def nearB (a b : Bx) : Bool := besideB a b && decide (a.in_ ≤ b.out) && decide (b.in_ ≤ a.out)
/-- When two come too near first; and whether they do. -/
def closeT (a b : Bx) : Int := if boxB a && boxB b && nearB a b then max a.in_ b.in_ else 0
def closeB (a b : Bx) : Bool := boxB a && boxB b && nearB a b
/-- Two spans have the same ends. -/
theorem lies_same {a b c d : Int} (h : ¬ b < a) : (decide (max a c = a) && decide (min b d = b)) = liesB a b c d := by
  rw [Bool.eq_iff_iff]; simp [liesB]; omega
theorem lies_none {a b c d : Int} (h : b < a) : liesB a b c d = false := by
  simp [liesB]; omega
theorem beside_meets (a b : Bx) (ha : boxB a = true) (hb : boxB b = true) :
    besideB a b = (meetB (a.x - 1) (a.x + 1) b.x b.x && meetB (a.y - 1) (a.y + 1) b.y b.y && meetB a.lo a.hi b.lo b.hi) := by
  rw [boxB_iff] at ha hb
  rw [Bool.eq_iff_iff]; simp [besideB, meetB, inB]; omega
theorem near_ticks (a b : Bx) (ha : boxB a = true) (hb : boxB b = true) : nearB a b = (besideB a b && !decide (min a.out b.out < max a.in_ b.in_)) := by
  rw [boxB_iff] at ha hb
  unfold nearB
  cases besideB a b
  · rfl
  · rw [Bool.eq_iff_iff]; simp; omega
end Go.Proofs.YtgkebobmfagklaaGreat

namespace Go.Proofs.YtgkebobmfagklaaGreat
open Go.RowKit

/-- A tube: its name, and where its boxes lie. -/
structure Tb where
  nm : ByteArray
  a : Option Addr
  b : Nat
  o : Nat
  cap : Nat
  l : List Bx
abbrev Tb.val (t : Tb) : Value := .agg #[.string t.nm, .slice t.a t.l.length t.cap]
/-- Its boxes lie there. -/
structure TubeAt (w : World) (t : Tb) : Prop where
  at_ : BoxesAt w t.a t.b t.o t.l
theorem TubeAt.below {w w' : World} {t : Tb} (h : TubeAt w t) (hb : Below w.heap.size w w') : TubeAt w' t := ⟨h.at_.below hb h.at_.lt⟩
/-- Tubes lie in block b from offset o on, two cells each. -/
structure TubesAt (w : World) (a : Option Addr) (b o : Nat) (ts : List Tb) : Prop where
  here : ts ≠ [] → a = some ⟨b, o, none⟩
  lt : ts ≠ [] → b < w.heap.size
  cell : ∀ (i : Nat) (t : Tb), ts[i]? = some t → w.rangeAt b (o + i * 2) [.string t.nm, .slice t.a t.l.length t.cap]
  each : ∀ t ∈ ts, TubeAt w t
theorem TubesAt.below {w w' : World} {a : Option Addr} {b o : Nat} {ts : List Tb} (h : TubesAt w a b o ts) (hb : Below w.heap.size w w') : TubesAt w' a b o ts where
  here := h.here
  lt hl := Nat.lt_of_lt_of_le (h.lt hl) hb.size
  cell i t hi := range_below (h.cell i t hi) hb (h.lt (by intro e; subst e; simp at hi))
  each t ht := (h.each t ht).below hb
theorem TubesAt.two {w : World} {a : Option Addr} {b o : Nat} {ts : List Tb} (h : TubesAt w a b o ts) {i : Nat} {t : Tb} (hi : ts[i]? = some t) :
    w.cell? ⟨b, o + i * 2, none⟩ = some (.string t.nm) ∧ w.cell? ⟨b, o + i * 2 + 1, none⟩ = some (.slice t.a t.l.length t.cap) :=
  ⟨h.cell i t hi 0 _ rfl, h.cell i t hi 1 _ rfl⟩
end Go.Proofs.YtgkebobmfagklaaGreat

namespace Go.Proofs.YtgkebobmfagklaaGreat
open Go.RowKit

/-- What is left of boxes from a tick on. -/
def cutL (n : Int) (l : List Bx) : List Bx := (l.filter fun s => decide (n ≤ s.out)).map fun s => { s with in_ := max s.in_ n }
theorem cutL_nil (n : Int) : cutL n [] = [] := rfl
theorem cutL_take {n : Int} {l : List Bx} {k : Nat} {s : Bx} (h : l[k]? = some s) : cutL n (l.take (k + 1)) = if n ≤ s.out then cutL n (l.take k) ++ [{ s with in_ := max s.in_ n }] else cutL n (l.take k) := by
  unfold cutL
  rw [List.take_add_one, h]
  by_cases hh : n ≤ s.out <;> simp [List.filter_append, hh]
theorem cutL_len (n : Int) (l : List Bx) : (cutL n l).length ≤ l.length := by
  unfold cutL; rw [List.length_map]; exact List.length_filter_le _ _
theorem cutL_len_take (n : Int) (l : List Bx) (k : Nat) : (cutL n (l.take k)).length ≤ l.length :=
  Nat.le_trans (cutL_len n _) (by rw [List.length_take]; omega)
theorem rowC_snoc (l : List Bx) (s : Bx) : rowC (l ++ [s]) = rowC l ++ s.cells := by rw [rowC_append, rowC_one]

/-- A row of boxes that a call owns, as a law reads and marks it. -/
structure RowB (w : World) (base : Nat) (a : Option Addr) (g : Nat) (m : List Bx) : Prop where
  at_ : BoxesAt w a g 0 m
  base : m ≠ [] → base ≤ g
  there : ∀ i, i < m.length → w.there g (i * 6) 6
theorem owns_rowB {w : World} {base : Nat} {e : TypeId} {v : Value} {m : List Bx} (h : w.ownsRow base e 6 v m.length (rowC m)) : ∃ a g cap, v = .slice a m.length cap ∧ RowB w base a g m := by
  rcases h.2 with ⟨rfl, h0⟩ | ⟨g, cap, cur, rfl, hg, hh, hn, hc, hs, ht⟩
  · have : m = [] := List.length_eq_zero_iff.1 h0
    subst this
    exact ⟨none, 0, 0, rfl, ⟨⟨fun h => absurd rfl h, fun h => absurd rfl h, fun i s hi => by simp at hi⟩, fun h => absurd rfl h, fun i hi => by simp at hi⟩⟩
  · refine ⟨some ⟨g, 0, none⟩, g, cap, rfl, ⟨⟨fun _ => rfl, fun _ => lt_of_block hh, fun i s hi j u hu => ?_⟩, fun _ => hg, fun i hi => there_of_block hh _ _ ?_⟩⟩
    · have h1 := rowC_get m i s hi j u hu
      rw [← ht] at h1
      rw [Nat.zero_add, cell_of_row w g (i * 6 + j) cur _ _ hh]
      rw [List.getElem?_take] at h1
      split at h1
      · simpa using h1
      · cases h1
    · have hl := h.1
      rw [← ht, List.length_take] at hl
      simp at hl
      omega
theorem RowB.keep {w w' : World} {base : Nat} {a : Option Addr} {g : Nat} {m : List Bx} (h : RowB w base a g m) (hb : Below w.heap.size w w') : RowB w' base a g m where
  at_ := h.at_.below hb h.at_.lt
  base := h.base
  there i hi := there_below (h.there i hi) hb (h.at_.lt (by intro e; subst e; simp at hi))

theorem BoxesAt.grown {w w' : World} {a : Option Addr} {b o : Nat} {l : List Bx} (h : BoxesAt w a b o l) {row : Option Nat} (hg : w.grownBy w' row) (hb : l ≠ [] → some b ≠ row) : BoxesAt w' a b o l where
  here := h.here
  lt hl := Nat.lt_of_lt_of_le (h.lt hl) hg.size
  cell i s hi j u hu := by
    have hne : l ≠ [] := by intro e; subst e; simp at hi
    rw [World.cell?_of_block (a := ⟨b, o + i * 6 + j, none⟩) (hg.block b (h.lt hne) (hb hne))]
    exact h.cell i s hi j u hu
theorem RowB.grown {w w' : World} {base : Nat} {a : Option Addr} {b : Nat} {m : List Bx} (h : RowB w base a b m) {row : Option Nat} (hg : w.grownBy w' row) (hb : m ≠ [] → some b ≠ row) : RowB w' base a b m where
  at_ := h.at_.grown hg hb
  base := h.base
  there i hi j hj := by
    have hne : m ≠ [] := by intro e; subst e; simp at hi
    have hbl := hg.block b (h.at_.lt hne) (hb hne)
    have h1 := h.there i hi j hj
    rw [World.cell?_of_block (a := ⟨b, i * 6 + j, none⟩) hbl, World.frozen?_of_block (a := ⟨b, i * 6 + j, none⟩) hbl]
    exact h1

/-- The block of a row, if it has one. -/
def rowOf {α : Type} (m : List α) (g : Nat) : Option Nat := if m.length = 0 then none else some g
theorem rowOf_pos {α : Type} {m : List α} {g : Nat} (h : 0 < m.length) : rowOf m g = some g := by unfold rowOf; rw [if_neg (by omega)]
theorem rowOf_ne {α : Type} {m : List α} {g B : Nat} (h : m ≠ [] → B ≠ g) : some B ≠ rowOf m g := by
  unfold rowOf
  split
  · simp
  · rename_i hn
    intro e
    exact h (by intro e2; subst e2; simp at hn) (Option.some.inj e)
/-- Six marks. -/
abbrev marks (k0 : Int) (m : Nat) : List Value := [.int .i64 (k0 + (m * 6 : Nat)), .int .i64 (k0 + (m * 6 : Nat) + 1), .int .i64 (k0 + (m * 6 : Nat) + 1 + 1), .int .i64 (k0 + (m * 6 : Nat) + 1 + 1 + 1), .int .i64 (k0 + (m * 6 : Nat) + 1 + 1 + 1 + 1), .int .i64 (k0 + (m * 6 : Nat) + 1 + 1 + 1 + 1 + 1)]

theorem six_newP (w : World) (s : Bx) (t : TypeId) : ∀ (j : Nat) (u : Value), s.cells[j]? = some u → (w.alloc (.cells #[.int .i64 s.x, .int .i64 s.y, .int .i64 s.lo, .int .i64 s.hi, .int .i64 s.in_, .int .i64 s.out] t)).cell? ((⟨w.heap.size, 0, none⟩ : Addr).add j) = some u := by
  intro j u hj
  match j, hj with
  | 0, hj => simp at hj; subst hj; simp [Addr.add, go_sem]
  | 1, hj => simp at hj; subst hj; simp [Addr.add, go_sem]
  | 2, hj => simp at hj; subst hj; simp [Addr.add, go_sem]
  | 3, hj => simp at hj; subst hj; simp [Addr.add, go_sem]
  | 4, hj => simp at hj; subst hj; simp [Addr.add, go_sem]
  | 5, hj => simp at hj; subst hj; simp [Addr.add, go_sem]
theorem six_new2P (w : World) (s : Bx) (o : Obj) (t : TypeId) : ∀ (j : Nat) (u : Value), s.cells[j]? = some u → ((w.alloc o).alloc (.cells #[.int .i64 s.x, .int .i64 s.y, .int .i64 s.lo, .int .i64 s.hi, .int .i64 s.in_, .int .i64 s.out] t)).cell? ((⟨w.heap.size + 1, 0, none⟩ : Addr).add j) = some u := by
  intro j u hj
  have := six_newP (w.alloc o) s t j u hj
  rwa [World.size_alloc] at this
end Go.Proofs.YtgkebobmfagklaaGreat

namespace Go.Proofs.YtgkebobmfagklaaGreat
open Go.RowKit

theorem pin_any (n a b : Int) (w : World) :
    Calls Tryz.prog 49 #[.int .i64 n, .int .i64 a, .int .i64 b] w fun e w' => e = .returned (.bool (inB n a b)) ∧ w' = w := by
  by_cases h1 : a ≤ n
  · by_cases h2 : n ≤ b
    · go_enter Tryz.func49, Tryz.ntmps49
      go_wp2
      go_ret
      exact ⟨by simp [inB, h1, h2], rfl⟩
    · have h2' : decide (n ≤ b) = false := by simpa using h2
      go_enter Tryz.func49, Tryz.ntmps49
      go_wp2
      go_ret
      exact ⟨by simp [inB, h2'], rfl⟩
  · have h1' : decide (a ≤ n) = false := by simpa using h1
    go_enter Tryz.func49, Tryz.ntmps49
    go_wp2
    go_ret
    exact ⟨by simp [inB, h1'], rfl⟩

end Go.Proofs.YtgkebobmfagklaaGreat

namespace Go.Proofs.YtgkebobmfagklaaGreat
open Go.RowKit

theorem boxOkS_any (x y lo hi i o : Int) (w : World) :
    Calls Tryz.prog 36 #[.agg #[.int .i64 x, .int .i64 y, .int .i64 lo, .int .i64 hi, .int .i64 i, .int .i64 o]] w fun e w' => e = .returned (.bool (boxB ⟨x, y, lo, hi, i, o⟩)) ∧ Below w.heap.size w w' := by
  have hb := (Below.refl w.heap.size w).alloc (Nat.le_refl _) (.cells #[.int .i64 x, .int .i64 y, .int .i64 lo, .int .i64 hi, .int .i64 i, .int .i64 o] 51)
  have ER : Hid (boxB ⟨x, y, lo, hi, i, o⟩ = (inB x 0 15 && inB y 0 15 && inB lo 0 hi && decide (hi ≤ 6) && inB i 0 o && decide (o ≤ 10000))) := rfl
  rcases Bool.eq_false_or_eq_true (inB x 0 15) with h1 | h1
  rcases Bool.eq_false_or_eq_true (inB y 0 15) with h2 | h2
  rcases Bool.eq_false_or_eq_true (inB lo 0 hi) with h3 | h3
  rcases Bool.eq_false_or_eq_true (decide (hi ≤ 6)) with h4 | h4
  rcases Bool.eq_false_or_eq_true (inB i 0 o) with h5 | h5
  all_goals
    go_enter Tryz.func36, Tryz.ntmps36
    go_wp2_with (go_at_call 49; refine (pin_any _ _ _ _).mono ?_; rintro e w' ⟨rfl, rfl⟩)
    go_ret
    exact ⟨by rw [ER.out]; simp [*], hb⟩
theorem boxOkS_val (s : Bx) (v : Bool) (w : World) (hv : boxB s = v) :
    Calls Tryz.prog 36 #[s.val] w fun e w' => e = .returned (.bool v) ∧ Below w.heap.size w w' := by
  rw [← hv]; exact boxOkS_any s.x s.y s.lo s.hi s.in_ s.out w
end Go.Proofs.YtgkebobmfagklaaGreat

namespace Go.Proofs.YtgkebobmfagklaaGreat
open Go.RowKit

theorem bel1 {w : World} (c1 : Obj) : Below w.heap.size w (w.alloc c1) := (Below.refl w.heap.size w).alloc (Nat.le_refl _) _
theorem bel2 {w : World} (c1 c2 : Obj) : Below w.heap.size w ((w.alloc c1).alloc c2) := (bel1 c1).alloc (by simp) _
theorem bel3 {w : World} (c1 c2 c3 : Obj) : Below w.heap.size w (((w.alloc c1).alloc c2).alloc c3) := (bel2 c1 c2).alloc (by simp; omega) _
end Go.Proofs.YtgkebobmfagklaaGreat
