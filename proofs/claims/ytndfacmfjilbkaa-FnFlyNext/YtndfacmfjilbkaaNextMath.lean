/- A beginning and one tick more: it goes on just if the tick was open. -/
import Derived.Test.YtndfacmfjilbkaaJ07
import Derived.Test.YtndfacmfjilbkaaJ06
namespace Go.Proofs.Ytndfacmfjilbkaa
open Go.RowKit

section
variable {q s fr b : Int} {l : List Stp}
/-- Each tick was open. -/
def Beg (q s fr b : Int) (l : List Stp) (cs : List Int) : Prop := ∀ k, k < cs.length → inP (cs.getD k 0) (openA q s fr b l l.length (fun i => cs.getD i 0) k)
theorem getD_left {cs ds : List Int} {k : Nat} (h : k < cs.length) : (cs ++ ds).getD k 0 = cs.getD k 0 := by
  rw [List.getD_eq_getElem?_getD, List.getD_eq_getElem?_getD, List.getElem?_append_left h]
theorem getD_last (cs : List Int) (t : Int) : (cs ++ [t]).getD cs.length 0 = t := by
  rw [List.getD_eq_getElem?_getD, List.getElem?_append_right (Nat.le_refl _), Nat.sub_self]; rfl
theorem openA_same {n : Nat} {c c' : Nat → Int} {k : Nat} (h : ∀ i, i < k → c i = c' i) : openA q s fr b l n c k = openA q s fr b l n c' k := by
  cases k with
  | zero => rfl
  | succ m => rw [openA, openA, h m (by omega)]
theorem beg_snoc {cs : List Int} {t : Int} (h : Beg q s fr b l cs) (ht : inP t (openA q s fr b l l.length (fun i => cs.getD i 0) cs.length)) : Beg q s fr b l (cs ++ [t]) := by
  intro k hk
  rw [List.length_append] at hk
  have hsame : openA q s fr b l l.length (fun i => (cs ++ [t]).getD i 0) k = openA q s fr b l l.length (fun i => cs.getD i 0) k := openA_same fun i hi => getD_left (by simp at hk; omega)
  rw [hsame]
  by_cases e : k = cs.length
  · subst e
    rw [getD_last]
    exact ht
  · have hlt : k < cs.length := by simp at hk; omega
    rw [getD_left hlt]
    exact h k hlt
theorem goB_of (hp : pathB q s fr b l = true) (hsp : spanB q s fr b l = true) {cs : List Int} (hl : cs.length ≤ l.length) (h : Beg q s fr b l cs) : goB q s fr b l cs = true := by
  simp only [goB, Bool.and_eq_true, decide_eq_true_eq]
  exact ⟨⟨⟨hp, hsp⟩, hl⟩, (begunB_iff q s fr b l cs cs.length).2 h⟩
theorem goAt_pre (cs asks : List Int) : ∀ (i k : Nat), k < cs.length → (goAt q s fr b l cs asks i).getD k 0 = cs.getD k 0
  | 0, _, _ => rfl
  | i + 1, k, hk => by rw [goAt, getD_left (by rw [goAt_length]; omega)]; exact goAt_pre cs asks i k hk
theorem goAt_beg (hp : pathB q s fr b l = true) (hsp : spanB q s fr b l = true) {cs : List Int} (h : Beg q s fr b l cs) : ∀ i, cs.length + i ≤ l.length + 1 → Beg q s fr b l (goAt q s fr b l cs [] i)
  | 0, _ => h
  | i + 1, hi => by
    have h1 := goAt_beg hp hsp h i (by omega)
    have hl : (goAt q s fr b l cs [] i).length ≤ l.length := by rw [goAt_length]; omega
    have hg := goB_of hp hsp hl h1
    have hw := Wide.of hp
    rw [goAt]
    refine beg_snoc h1 ?_
    rw [List.drop_nil]
    unfold goS
    rw [if_pos hg]
    refine ⟨Int.le_refl _, ?_⟩
    rw [hw.span_fwd] at hsp
    exact open_some hw.quick hsp _ hl h1
/-- What has begun, each tick open, is flown to its end. -/
theorem beg_flown (hp : pathB q s fr b l = true) (hsp : spanB q s fr b l = true) {cs : List Int} (h : Beg q s fr b l cs) (hl : cs.length ≤ l.length + 1) : flownB q s fr b l cs [] = true := by
  have hF : goF q s fr b l cs [] = goAt q s fr b l cs [] (l.length + 1 - cs.length) := by
    refine goF_is (goB_long (by rw [goAt_length]; omega)) fun j hj => ?_
    exact goB_of hp hsp (by rw [goAt_length]; omega) (goAt_beg hp hsp h j (by omega))
  unfold flownB
  rw [hF]
  have hb := goAt_beg hp hsp h (l.length + 1 - cs.length) (by omega)
  have hlen : (goAt q s fr b l cs [] (l.length + 1 - cs.length)).length = l.length + 1 := by rw [goAt_length]; omega
  generalize goAt q s fr b l cs [] (l.length + 1 - cs.length) = f at *
  rw [lawB_keeps hp]
  refine ⟨hlen, ?_⟩
  have hw := Wide.of hp
  rw [hw.span_fwd] at hsp
  obtain ⟨z, hz, h1, h2⟩ := (begun_iff hw.quick hsp (fun i => f.getD i 0) (Nat.le_refl l.length) (f.getD l.length 0)).1 ⟨fun k hk => hb k (by omega), hb l.length (by omega)⟩
  refine keeps_congr hz fun k hk => ?_
  by_cases e : k = l.length
  · subst e; exact h2.symm
  · exact (h1 k (by omega)).symm
/-- One tick more: flown just if it was open. -/
theorem next_flown {zs : List Int} (hg : goB q s fr b l zs = true) (t : Int) : flownB q s fr b l (zs ++ [t]) [] = inB t (goS q s fr b l zs).1 (goS q s fr b l zs).2 := by
  obtain ⟨hp, hsp, hl, hb⟩ := goB_parts hg
  have hS : goS q s fr b l zs = openA q s fr b l l.length (fun i => zs.getD i 0) zs.length := by unfold goS; rw [if_pos hg]
  rw [Bool.eq_iff_iff, inB_iff, hS]
  constructor
  · intro h
    unfold flownB at h
    rw [lawB_keeps hp] at h
    have hw := Wide.of hp
    rw [hw.span_fwd] at hsp
    refine ((begun_iff hw.quick hsp (fun i => zs.getD i 0) hl t).2 ⟨_, h.2, fun k hk => ?_, ?_⟩).2
    · unfold goF
      rw [goAt_pre _ _ _ _ (by simp; omega), getD_left hk]
    · unfold goF
      show (goAt q s fr b l (zs ++ [t]) [] _).getD zs.length 0 = t
      rw [goAt_pre _ _ _ _ (by simp), getD_last]
  · intro h
    exact beg_flown hp hsp (beg_snoc hb h) (by simp; omega)
/-- Nothing more: flown just if it is a whole flight. -/
theorem none_flown {zs : List Int} (hg : goB q s fr b l zs = false) : flownB q s fr b l zs [] = lawB q s fr b l zs := by
  unfold flownB
  rw [goF_is (n := 0) hg (fun j hj => by omega)]
  rfl
theorem none_list {zs : List Int} (hg : goB q s fr b l zs = false) : flownL q s fr b l zs [] = if lawB q s fr b l zs then zs else [] := by
  unfold flownL
  rw [none_flown hg, goF_is (n := 0) hg (fun j hj => by omega)]
  rfl
/-- What is flown may be flown. -/
theorem flown_allow {cs asks : List Int} (h : flownB q s fr b l cs asks = true) : allowB q s fr b l (flownL q s fr b l cs asks) = true := by
  have hp : pathB q s fr b l = true := by
    cases e : pathB q s fr b l with
    | true => rfl
    | false => unfold flownB at h; rw [lawB_path e] at h; cases h
  rw [allow_law hp]
  unfold flownL
  rw [if_pos h]
  exact h
theorem lawB_length {zs : List Int} (h : lawB q s fr b l zs = true) : zs.length = l.length + 1 := by
  by_cases e : zs.length = l.length + 1
  · exact e
  · rw [lawB_len e] at h; cases h
end
end Go.Proofs.Ytndfacmfjilbkaa
