/- What is open, from tick to tick, and the program's closure that remembers what has begun: by their contracts. -/
import Derived.Test.YtndfacmfjilbkaiNextImpl
import Derived.Test.YtndfacmfjilbkaiNextSpec2
import Derived.Test.YtndfacmfjilbkaiFollow2
namespace Go.Proofs.Ytndfacmfjilbkai
open Go.RowKit

theorem begunB_congr {q s fr b : Int} {l : List Stp} {zs zs' : List Int} : ∀ {m : Nat}, (∀ i, i < m → zs.getD i 0 = zs'.getD i 0) → begunB q s fr b l zs m = begunB q s fr b l zs' m
  | 0, _ => rfl
  | m + 1, h => by
    rw [begunB, begunB, begunB_congr (fun i hi => h i (by omega)), h m (by omega)]
    have e : openA q s fr b l l.length (fun i => zs.getD i 0) m = openA q s fr b l l.length (fun i => zs'.getD i 0) m := by
      cases m with
      | zero => rfl
      | succ k => simp only [openA]; rw [h k (by omega)]
    rw [e]
theorem getD_snoc_lt (cs : List Int) (z : Int) {i : Nat} (h : i < cs.length) : (cs ++ [z]).getD i 0 = cs.getD i 0 := by
  rw [List.getD_eq_getElem?_getD, List.getD_eq_getElem?_getD, List.getElem?_append_left h]
theorem getD_snoc_eq (cs : List Int) (z : Int) : (cs ++ [z]).getD cs.length 0 = z := by
  rw [List.getD_eq_getElem?_getD, List.getElem?_append_right (Nat.le_refl _)]; simp
theorem openA_snoc (q s fr b : Int) (l : List Stp) (cs : List Int) (z : Int) {k : Nat} (hk : k ≤ cs.length) : openA q s fr b l l.length (fun i => (cs ++ [z]).getD i 0) k = openA q s fr b l l.length (fun i => cs.getD i 0) k := by
  cases k with
  | zero => rfl
  | succ m => simp only [openA]; rw [getD_snoc_lt cs z (by omega)]
theorem goB_snoc (q s fr b : Int) (l : List Stp) (cs : List Int) (z : Int) : goB q s fr b l (cs ++ [z]) = (goB q s fr b l cs && (inB z (openA q s fr b l l.length (fun i => cs.getD i 0) cs.length).1 (openA q s fr b l l.length (fun i => cs.getD i 0) cs.length).2 && decide (cs.length + 1 ≤ l.length))) := by
  unfold goB
  rw [List.length_append, List.length_singleton, begunB, getD_snoc_eq, openA_snoc q s fr b l cs z (Nat.le_refl _), begunB_congr (zs' := cs) (fun i hi => getD_snoc_lt cs z hi)]
  generalize inB z (openA q s fr b l l.length (fun i => cs.getD i 0) cs.length).1 (openA q s fr b l l.length (fun i => cs.getD i 0) cs.length).2 = B
  by_cases h1 : cs.length + 1 ≤ l.length
  · rw [decide_eq_true h1, decide_eq_true (show cs.length ≤ l.length by omega)]
    cases pathB q s fr b l <;> cases spanB q s fr b l <;> cases begunB q s fr b l cs cs.length <;> cases B <;> rfl
  · rw [decide_eq_false h1]
    cases pathB q s fr b l <;> cases spanB q s fr b l <;> simp

/-- What the variable of the closure holds when these ticks have come. -/
def OpenV (w : World) (q s fr b : Int) (l : List Stp) (base g scap : Nat) (cs : List Int) (v : Value) : Prop :=
  if goB q s fr b l cs then
    (∃ cp, l.length - cs.length + 1 ≤ cp ∧ v = .slice (some ⟨g, cs.length * 2, none⟩) (l.length - cs.length + 1) cp) ∧ w.ownsRow base 30 2 (.slice (some ⟨g, 0, none⟩) (l.length + 1) scap) (l.length + 1) (spanCells (rowG q s fr b l (fun i => cs.getD i 0) cs.length))
  else ∃ a cp, v = .slice a 0 cp
theorem OpenV.keep {w w' : World} {q s fr b : Int} {l : List Stp} {base g scap : Nat} {cs : List Int} {v : Value} (h : OpenV w q s fr b l base g scap cs v) (hb : goB q s fr b l cs = true → g < w.heap.size → w'.heap[g]? = w.heap[g]?) : OpenV w' q s fr b l base g scap cs v := by
  unfold OpenV at *
  split
  · rename_i hg
    rw [if_pos hg] at h
    refine ⟨h.1, h.2.1, h.2.2.imp id fun ⟨g', cap', cur, h1, h2, h3, h4⟩ => ⟨g', cap', cur, h1, h2, ?_, h4⟩⟩
    have e : g = g' := by cases h1; rfl
    subst e
    exact (hb hg (lt_of_block h3)).trans h3
  · rename_i hg
    rw [if_neg hg] at h
    exact h

theorem goB_parts {q s fr b : Int} {l : List Stp} {zs : List Int} (h : goB q s fr b l zs = true) : pathB q s fr b l = true ∧ spanB q s fr b l = true ∧ zs.length ≤ l.length ∧ ∀ k, k < zs.length → inP (zs.getD k 0) (openA q s fr b l l.length (fun i => zs.getD i 0) k) := by
  simp only [goB, Bool.and_eq_true, decide_eq_true_eq] at h
  exact ⟨h.1.1.1, h.1.1.2, h.1.2, (begunB_iff q s fr b l zs zs.length).1 h.2⟩
theorem open_range {q s fr b : Int} {l : List Stp} {zs : List Int} (h : goB q s fr b l zs = true) : 0 ≤ (openA q s fr b l l.length (fun i => zs.getD i 0) zs.length).1 ∧ (openA q s fr b l l.length (fun i => zs.getD i 0) zs.length).1 ≤ (openA q s fr b l l.length (fun i => zs.getD i 0) zs.length).2 ∧ (openA q s fr b l l.length (fun i => zs.getD i 0) zs.length).2 ≤ 10000 := by
  obtain ⟨hp, hsp, hz, hall⟩ := goB_parts h
  have hw := Wide.of hp
  rw [hw.span_fwd] at hsp
  have hso := open_some hw.quick hsp (fun i => zs.getD i 0) hz hall
  have w1 := span_win hw.quick hsp hz (openA_sub zs.length ⟨Int.le_refl _, hso⟩)
  have w2 := span_win hw.quick hsp hz (openA_sub zs.length ⟨hso, Int.le_refl _⟩)
  have := hw.win zs.length
  omega

theorem grown_of_below {w w' : World} {g : Nat} (h : Below w.heap.size w w') : w.grownBy w' (some g) := ⟨h.os, h.tape, h.output, h.size, fun i hi _ => h.block i hi⟩

theorem behind_st (q s fr b : Int) (a : Option Addr) (b0 o cap : Nat) (l : List Stp) (base g scap : Nat) (cs : List Int) (v : Value) (z : Int) (w : World) (hl : l.length ≤ 1048576) (hs : StepsAt w a b0 o l) (hb0 : l ≠ [] → b0 ≠ g) (hv : OpenV w q s fr b l base g scap cs v) :
    Calls Try.prog 51 #[.agg #[.int .i64 q, .int .i64 s, .slice a l.length cap, .int .i64 fr, .int .i64 b], v, .int .i64 z] w
      fun x w' => ∃ v', x = .returned v' ∧ (w.grownBy w' (some g) ∧ (goB q s fr b l cs = false → Below w.heap.size w w')) ∧ OpenV w' q s fr b l base g scap (cs ++ [z]) v' := by
  unfold OpenV at hv
  split at hv
  · rename_i hg
    obtain ⟨⟨cp, hcp, rfl⟩, hown⟩ := hv
    obtain ⟨hp, hsp, hz, hall⟩ := goB_parts hg
    have hk := kind_range hp
    have hr := open_range hg
    have hget := rowG_get q s fr b l (fun i => cs.getD i 0) cs.length cs.length hz
    rw [if_pos (Nat.le_refl _)] at hget
    refine (behind_live q s fr b a b0 o cap l g scap base cs.length (l.length - cs.length) cp _ z w hl hs (by omega) hcp (by omega) (by omega) _ (spanAt q s fr b l l.length (cs.length + 1)) hb0 hget ?_ ⟨hr.1, hr.2.2⟩ hown).mono ?_
    · intro hm
      have := rowG_get q s fr b l (fun i => cs.getD i 0) cs.length (cs.length + 1) (by omega)
      rwa [if_neg (by omega)] at this
    · rintro x w' ⟨hgr, h⟩
      have hsn := goB_snoc q s fr b l cs z
      rw [hg, Bool.true_and] at hsn
      rcases h with ⟨h1, rfl⟩ | ⟨h1, h2, a', cp', rfl⟩ | ⟨h1, h2, rfl, h3⟩
      · rw [h1, Bool.false_and] at hsn
        refine ⟨_, rfl, ⟨hgr, fun h => by rw [hg] at h; cases h⟩, ?_⟩
        unfold OpenV
        rw [if_neg (by rw [hsn]; simp)]
        exact ⟨_, _, rfl⟩
      · rw [decide_eq_false (show ¬ cs.length + 1 ≤ l.length by omega), Bool.and_false] at hsn
        refine ⟨_, rfl, ⟨hgr, fun h => by rw [hg] at h; cases h⟩, ?_⟩
        unfold OpenV
        rw [if_neg (by rw [hsn]; simp)]
        exact ⟨_, _, rfl⟩
      · rw [h1, decide_eq_true (show cs.length + 1 ≤ l.length by omega)] at hsn
        refine ⟨_, rfl, ⟨hgr, fun h => by rw [hg] at h; cases h⟩, ?_⟩
        unfold OpenV
        rw [if_pos (by rw [hsn]; rfl), List.length_append, List.length_singleton]
        refine ⟨⟨cp - 1, by omega, ?_⟩, ?_⟩
        · rw [show l.length - (cs.length + 1) + 1 = l.length - cs.length by omega]
        · rw [rowG_succ, getD_snoc_eq, rowG_congr (c' := fun i => cs.getD i 0) (fun i hi => getD_snoc_lt cs z hi)]
          exact h3
  · rename_i hg
    obtain ⟨a', cp, rfl⟩ := hv
    refine (behind_dead q s fr b a l.length cap a' cp z w).mono ?_
    rintro x w' ⟨rfl, hb⟩
    refine ⟨_, rfl, ⟨grown_of_below hb, fun _ => hb⟩, ?_⟩
    have hsn := goB_snoc q s fr b l cs z
    rw [Bool.not_eq_true] at hg
    rw [hg, Bool.false_and] at hsn
    unfold OpenV
    rw [if_neg (by rw [hsn]; simp)]
    exact ⟨_, _, rfl⟩

theorem goB_mono {q s fr b : Int} {l : List Stp} {cs : List Int} : ∀ (zs : List Int), goB q s fr b l (cs ++ zs) = true → goB q s fr b l cs = true := by
  intro zs
  induction zs generalizing cs with
  | nil => intro h; simpa using h
  | cons z zs ih =>
    intro h
    have h1 := ih (cs := cs ++ [z]) (by simpa using h)
    rw [goB_snoc, Bool.and_eq_true] at h1
    exact h1.1

/-- All blocks that lay, but two, lie as they lay. -/
structure Kept2 (g o : Nat) (w w' : World) : Prop where
  os : w'.os = w.os
  tape : w'.tape = w.tape
  output : w'.output = w.output
  size : w.heap.size ≤ w'.heap.size
  block : ∀ i, i < w.heap.size → i ≠ g → i ≠ o → w'.heap[i]? = w.heap[i]?
end Go.Proofs.Ytndfacmfjilbkai
