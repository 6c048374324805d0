/- Joined texts: NextImpl2, GoData, LawSpec2, LawSpec3, GoSpec, SpanSpec2, SpanSaid, Ends, Draw3. -/
import Derived.Maps.AppendAt
import Derived.Test.YtfjlbgegjjdflaaJ05
import Derived.Test.YtfjlbgegjjdflaaJ01
import Derived.Test.YtfjlbgegjjdflaaJ02
namespace Go.Proofs.Ytfjlbgegjjdflaa
open Go.RowKit

theorem begunB_congr {q s fr b : Int} {l : List Stp} {zs zs' : List Int} : ∀ {m : Nat}, (∀ i, i < m → zs.getD i 0 = zs'.getD i 0) → begunB q s fr b l zs m = begunB q s fr b l zs' m
  | 0, _ => rfl
  | m + 1, h => by
    rw [begunB, begunB, begunB_congr (fun i hi => h i (by omega)), h m (by omega)]
    have e : openA q s fr b l l.length (fun i => zs.getD i 0) m = openA q s fr b l l.length (fun i => zs'.getD i 0) m := by
      cases m with
      | zero => rfl
      | succ k => simp only [openA]; rw [h k (by omega)]
    rw [e]
theorem getD_snoc_lt (cs : List Int) (z : Int) {i : Nat} (h : i < cs.length) : (cs ++ [z]).getD i 0 = cs.getD i 0 := by
  rw [List.getD_eq_getElem?_getD, List.getD_eq_getElem?_getD, List.getElem?_append_left h]
theorem getD_snoc_eq (cs : List Int) (z : Int) : (cs ++ [z]).getD cs.length 0 = z := by
  rw [List.getD_eq_getElem?_getD, List.getElem?_append_right (Nat.le_refl _)]; simp
theorem openA_snoc (q s fr b : Int) (l : List Stp) (cs : List Int) (z : Int) {k : Nat} (hk : k ≤ cs.length) : openA q s fr b l l.length (fun i => (cs ++ [z]).getD i 0) k = openA q s fr b l l.length (fun i => cs.getD i 0) k := by
  cases k with
  | zero => rfl
  | succ m => simp only [openA]; rw [getD_snoc_lt cs z (by omega)]
theorem goB_snoc (q s fr b : Int) (l : List Stp) (cs : List Int) (z : Int) : goB q s fr b l (cs ++ [z]) = (goB q s fr b l cs && (inB z (openA q s fr b l l.length (fun i => cs.getD i 0) cs.length).1 (openA q s fr b l l.length (fun i => cs.getD i 0) cs.length).2 && decide (cs.length + 1 ≤ l.length))) := by
  unfold goB
  rw [List.length_append, List.length_singleton, begunB, getD_snoc_eq, openA_snoc q s fr b l cs z (Nat.le_refl _), begunB_congr (zs' := cs) (fun i hi => getD_snoc_lt cs z hi)]
  generalize inB z (openA q s fr b l l.length (fun i => cs.getD i 0) cs.length).1 (openA q s fr b l l.length (fun i => cs.getD i 0) cs.length).2 = B
  by_cases h1 : cs.length + 1 ≤ l.length
  · rw [decide_eq_true h1, decide_eq_true (show cs.length ≤ l.length by omega)]
    cases pathB q s fr b l <;> cases spanB q s fr b l <;> cases begunB q s fr b l cs cs.length <;> cases B <;> rfl
  · rw [decide_eq_false h1]
    cases pathB q s fr b l <;> cases spanB q s fr b l <;> simp

/-- What the variable of the closure holds when these ticks have come. -/
def OpenV (w : World) (q s fr b : Int) (l : List Stp) (base g scap : Nat) (cs : List Int) (v : Value) : Prop :=
  if goB q s fr b l cs then
    (∃ cp, l.length - cs.length + 1 ≤ cp ∧ v = .slice (some ⟨g, cs.length * 2, none⟩) (l.length - cs.length + 1) cp) ∧ w.ownsRow base 38 2 (.slice (some ⟨g, 0, none⟩) (l.length + 1) scap) (l.length + 1) (spanCells (rowG q s fr b l (fun i => cs.getD i 0) cs.length))
  else ∃ a cp, v = .slice a 0 cp
theorem OpenV.keep {w w' : World} {q s fr b : Int} {l : List Stp} {base g scap : Nat} {cs : List Int} {v : Value} (h : OpenV w q s fr b l base g scap cs v) (hb : goB q s fr b l cs = true → g < w.heap.size → w'.heap[g]? = w.heap[g]?) : OpenV w' q s fr b l base g scap cs v := by
  unfold OpenV at *
  split
  · rename_i hg
    rw [if_pos hg] at h
    refine ⟨h.1, h.2.1, h.2.2.imp id fun ⟨g', cap', cur, h1, h2, h3, h4⟩ => ⟨g', cap', cur, h1, h2, ?_, h4⟩⟩
    have e : g = g' := by cases h1; rfl
    subst e
    exact (hb hg (lt_of_block h3)).trans h3
  · rename_i hg
    rw [if_neg hg] at h
    exact h

theorem goB_parts {q s fr b : Int} {l : List Stp} {zs : List Int} (h : goB q s fr b l zs = true) : pathB q s fr b l = true ∧ spanB q s fr b l = true ∧ zs.length ≤ l.length ∧ ∀ k, k < zs.length → inP (zs.getD k 0) (openA q s fr b l l.length (fun i => zs.getD i 0) k) := by
  simp only [goB, Bool.and_eq_true, decide_eq_true_eq] at h
  exact ⟨h.1.1.1, h.1.1.2, h.1.2, (begunB_iff q s fr b l zs zs.length).1 h.2⟩
theorem open_range {q s fr b : Int} {l : List Stp} {zs : List Int} (h : goB q s fr b l zs = true) : 0 ≤ (openA q s fr b l l.length (fun i => zs.getD i 0) zs.length).1 ∧ (openA q s fr b l l.length (fun i => zs.getD i 0) zs.length).1 ≤ (openA q s fr b l l.length (fun i => zs.getD i 0) zs.length).2 ∧ (openA q s fr b l l.length (fun i => zs.getD i 0) zs.length).2 ≤ 10000 := by
  obtain ⟨hp, hsp, hz, hall⟩ := goB_parts h
  have hw := Wide.of hp
  rw [hw.span_fwd] at hsp
  have hso := open_some hw.quick hsp (fun i => zs.getD i 0) hz hall
  have w1 := span_win hw.quick hsp hz (openA_sub zs.length ⟨Int.le_refl _, hso⟩)
  have w2 := span_win hw.quick hsp hz (openA_sub zs.length ⟨hso, Int.le_refl _⟩)
  have := hw.win zs.length
  omega

theorem grown_of_below {w w' : World} {g : Nat} (h : Below w.heap.size w w') : w.grownBy w' (some g) := ⟨h.os, h.tape, h.output, h.size, fun i hi _ => h.block i hi⟩

theorem behind_st (q s fr b : Int) (a : Option Addr) (b0 o cap : Nat) (l : List Stp) (base g scap : Nat) (cs : List Int) (v : Value) (z : Int) (w : World) (hl : l.length ≤ 1048576) (hs : StepsAt w a b0 o l) (hb0 : l ≠ [] → b0 ≠ g) (hv : OpenV w q s fr b l base g scap cs v) :
    Calls Try.prog 72 #[.agg #[.int .i64 q, .int .i64 s, .slice a l.length cap, .int .i64 fr, .int .i64 b], v, .int .i64 z] w
      fun x w' => ∃ v', x = .returned v' ∧ (w.grownBy w' (some g) ∧ (goB q s fr b l cs = false → Below w.heap.size w w')) ∧ OpenV w' q s fr b l base g scap (cs ++ [z]) v' := by
  unfold OpenV at hv
  split at hv
  · rename_i hg
    obtain ⟨⟨cp, hcp, rfl⟩, hown⟩ := hv
    obtain ⟨hp, hsp, hz, hall⟩ := goB_parts hg
    have hk := kind_range hp
    have hr := open_range hg
    have hget := rowG_get q s fr b l (fun i => cs.getD i 0) cs.length cs.length hz
    rw [if_pos (Nat.le_refl _)] at hget
    refine (behind_live q s fr b a b0 o cap l g scap base cs.length (l.length - cs.length) cp _ z w hl hs (by omega) hcp (by omega) (by omega) _ (spanAt q s fr b l l.length (cs.length + 1)) hb0 hget ?_ ⟨hr.1, hr.2.2⟩ hown).mono ?_
    · intro hm
      have := rowG_get q s fr b l (fun i => cs.getD i 0) cs.length (cs.length + 1) (by omega)
      rwa [if_neg (by omega)] at this
    · rintro x w' ⟨hgr, h⟩
      have hsn := goB_snoc q s fr b l cs z
      rw [hg, Bool.true_and] at hsn
      rcases h with ⟨h1, rfl⟩ | ⟨h1, h2, a', cp', rfl⟩ | ⟨h1, h2, rfl, h3⟩
      · rw [h1, Bool.false_and] at hsn
        refine ⟨_, rfl, ⟨hgr, fun h => by rw [hg] at h; cases h⟩, ?_⟩
        unfold OpenV
        rw [if_neg (by rw [hsn]; simp)]
        exact ⟨_, _, rfl⟩
      · rw [decide_eq_false (show ¬ cs.length + 1 ≤ l.length by omega), Bool.and_false] at hsn
        refine ⟨_, rfl, ⟨hgr, fun h => by rw [hg] at h; cases h⟩, ?_⟩
        unfold OpenV
        rw [if_neg (by rw [hsn]; simp)]
        exact ⟨_, _, rfl⟩
      · rw [h1, decide_eq_true (show cs.length + 1 ≤ l.length by omega)] at hsn
        refine ⟨_, rfl, ⟨hgr, fun h => by rw [hg] at h; cases h⟩, ?_⟩
        unfold OpenV
        rw [if_pos (by rw [hsn]; rfl), List.length_append, List.length_singleton]
        refine ⟨⟨cp - 1, by omega, ?_⟩, ?_⟩
        · rw [show l.length - (cs.length + 1) + 1 = l.length - cs.length by omega]
        · rw [rowG_succ, getD_snoc_eq, rowG_congr (c' := fun i => cs.getD i 0) (fun i hi => getD_snoc_lt cs z hi)]
          exact h3
  · rename_i hg
    obtain ⟨a', cp, rfl⟩ := hv
    refine (behind_dead q s fr b a l.length cap a' cp z w).mono ?_
    rintro x w' ⟨rfl, hb⟩
    refine ⟨_, rfl, ⟨grown_of_below hb, fun _ => hb⟩, ?_⟩
    have hsn := goB_snoc q s fr b l cs z
    rw [Bool.not_eq_true] at hg
    rw [hg, Bool.false_and] at hsn
    unfold OpenV
    rw [if_neg (by rw [hsn]; simp)]
    exact ⟨_, _, rfl⟩

theorem goB_mono {q s fr b : Int} {l : List Stp} {cs : List Int} : ∀ (zs : List Int), goB q s fr b l (cs ++ zs) = true → goB q s fr b l cs = true := by
  intro zs
  induction zs generalizing cs with
  | nil => intro h; simpa using h
  | cons z zs ih =>
    intro h
    have h1 := ih (cs := cs ++ [z]) (by simpa using h)
    rw [goB_snoc, Bool.and_eq_true] at h1
    exact h1.1

/-- All blocks that lay, but two, lie as they lay. -/
structure Kept2 (g o : Nat) (w w' : World) : Prop where
  os : w'.os = w.os
  tape : w'.tape = w.tape
  output : w'.output = w.output
  size : w.heap.size ≤ w'.heap.size
  block : ∀ i, i < w.heap.size → i ≠ g → i ≠ o → w'.heap[i]? = w.heap[i]?
end Go.Proofs.Ytfjlbgegjjdflaa

namespace Go.Proofs.Ytfjlbgegjjdflaa
open Go.RowKit

/-- The tick of a span that is nearest to one. -/
def clampB (x : Int × Int) (z : Int) : Int := mnB (mxB x.1 z) x.2
theorem clampB_other {x : Int × Int} (h : x.1 ≤ x.2) (z : Int) : mxB x.1 (mnB z x.2) = clampB x z := by
  unfold clampB mxB mnB; repeat' split <;> omega
def tickA (x : Int × Int) : List Int → Int
  | [] => x.1
  | z :: _ => clampB x z
/-- The ticks when i have come behind what has begun. -/
def goAt (q s fr b : Int) (l : List Stp) (cs asks : List Int) : Nat → List Int
  | 0 => cs
  | i + 1 => goAt q s fr b l cs asks i ++ [tickA (goS q s fr b l (goAt q s fr b l cs asks i)) (asks.drop i)]
theorem goAt_length (q s fr b : Int) (l : List Stp) (cs asks : List Int) : ∀ i, (goAt q s fr b l cs asks i).length = cs.length + i
  | 0 => rfl
  | i + 1 => by rw [goAt, List.length_append, goAt_length q s fr b l cs asks i]; simp; omega
/-- How many come. -/
def goStop (q s fr b : Int) (l : List Stp) (cs asks : List Int) : Nat → Nat → Nat
  | 0, i => i
  | f + 1, i => if goB q s fr b l (goAt q s fr b l cs asks i) then goStop q s fr b l cs asks f (i + 1) else i
theorem goStop_is {q s fr b : Int} {l : List Stp} {cs asks : List Int} {n : Nat} (h : goB q s fr b l (goAt q s fr b l cs asks n) = false) (hall : ∀ j, j < n → goB q s fr b l (goAt q s fr b l cs asks j) = true) :
    ∀ (f i : Nat), i ≤ n → n ≤ i + f → goStop q s fr b l cs asks f i = n
  | 0, i, h1, h2 => by simp only [goStop]; omega
  | f + 1, i, h1, h2 => by
    rw [goStop]
    by_cases e : i = n
    · subst e
      rw [h]; rfl
    · rw [if_pos (hall i (by omega))]
      exact goStop_is h hall f (i + 1) (by omega) (by omega)
/-- The whole flight. -/
def goF (q s fr b : Int) (l : List Stp) (cs asks : List Int) : List Int := goAt q s fr b l cs asks (goStop q s fr b l cs asks (l.length + 1) 0)
theorem goF_is {q s fr b : Int} {l : List Stp} {cs asks : List Int} {n : Nat} (h : goB q s fr b l (goAt q s fr b l cs asks n) = false) (hall : ∀ j, j < n → goB q s fr b l (goAt q s fr b l cs asks j) = true) : goF q s fr b l cs asks = goAt q s fr b l cs asks n := by
  unfold goF
  rw [goStop_is h hall (l.length + 1) 0 (Nat.zero_le _) ?_]
  cases n with
  | zero => omega
  | succ m =>
    have := (goB_parts (hall m (by omega))).2.2.1
    rw [goAt_length] at this
    omega
/-- What FlyGo answers. -/
def flownB (q s fr b : Int) (l : List Stp) (cs asks : List Int) : Bool := lawB q s fr b l (goF q s fr b l cs asks)
def flownL (q s fr b : Int) (l : List Stp) (cs asks : List Int) : List Int := if flownB q s fr b l cs asks then goF q s fr b l cs asks else []
theorem lawB_len {q s fr b : Int} {l : List Stp} {zs : List Int} (h : zs.length ≠ l.length + 1) : lawB q s fr b l zs = false := by
  unfold lawB; rw [decide_eq_false h]; simp
theorem lawB_path {q s fr b : Int} {l : List Stp} {zs : List Int} (h : pathB q s fr b l = false) : lawB q s fr b l zs = false := by
  unfold lawB; rw [h]; rfl
theorem flown_no {q s fr b : Int} {l : List Stp} {cs asks : List Int} (h : flownB q s fr b l cs asks = false) : flownL q s fr b l cs asks = [] := by unfold flownL; rw [h]; rfl

/-- The cells of a list of numbers. -/
def intCells (zs : List Int) : List Value := zs.map (.int .i64 ·)
theorem intCells_length (zs : List Int) : (intCells zs).length = zs.length := by simp [intCells]
theorem intCells_get (zs : List Int) (i : Nat) (z : Int) (h : zs[i]? = some z) : (intCells zs)[i]? = some (.int .i64 z) := by simp [intCells, h]
theorem intCells_snoc (zs : List Int) (z : Int) : intCells (zs ++ [z]) = intCells zs ++ [.int .i64 z] := by simp [intCells]
theorem intCells_one (zs : List Int) : ∀ u ∈ intCells zs, u.oneCell' = true := by
  intro u hu
  simp only [intCells, List.mem_map] at hu
  obtain ⟨z, _, rfl⟩ := hu
  rfl
theorem ints_news {w : World} {b o : Nat} {zs : List Int} {a : Option Addr} (h : IntsAt w a b o zs) : ∀ j u, (intCells zs)[j]? = some u → w.cell? ((⟨b, o, none⟩ : Addr).add j) = some u := by
  intro j u hj
  have hlt : j < zs.length := by rw [← intCells_length]; exact (List.getElem?_eq_some_iff.1 hj).1
  obtain ⟨z, hz⟩ : ∃ z, zs[j]? = some z := ⟨zs[j], List.getElem?_eq_getElem hlt⟩
  rw [intCells_get zs j z hz] at hj
  cases hj
  rw [Addr.add_mid]
  exact h.cell j z hz
theorem ints_owned {w : World} {base e : Nat} {zs : List Int} {v : Value} (h : w.ownsRow base e 1 v zs.length (intCells zs)) : ∃ a g cap, v = .slice a zs.length cap ∧ IntsAt w a g 0 zs ∧ (zs ≠ [] → v.ownBlock = some g) := by
  rcases h.2 with ⟨h1, h2⟩ | ⟨g, cap, cur, rfl, _, hh, _⟩
  · subst h1
    have e0 : zs = [] := List.eq_nil_of_length_eq_zero h2
    subst e0
    exact ⟨none, 0, 0, rfl, ⟨fun h => absurd rfl h, fun h => absurd rfl h, fun i z hi => by simp at hi⟩, fun h => absurd rfl h⟩
  · refine ⟨some ⟨g, 0, none⟩, g, cap, rfl, ⟨fun _ => rfl, fun _ => lt_of_block hh, fun i z hi => ?_⟩, fun _ => rfl⟩
    have hl : i < zs.length := (List.getElem?_eq_some_iff.1 hi).1
    rw [Nat.zero_add]
    exact (h.cellAt i (by omega)).trans (intCells_get zs i z hi)
/-- A row does not lie in a block of another type. -/
theorem row_ne {w : World} {base e size n B : Nat} {v : Value} {xs : List Value} (h : w.ownsRow base e size v n xs) {C : Array Value} {t : TypeId} (hB : w.heap[B]? = some (.cells C t (0, 0))) (hne : t ≠ e) : v.ownBlock ≠ some B := by
  intro hv
  rcases h.2 with ⟨rfl, _⟩ | ⟨g, cap, cur, rfl, _, hh, _⟩
  · cases hv
  · cases hv
    rw [hB] at hh
    cases hh
    exact hne rfl
theorem row_ne_row {w : World} {base e size n base' e' size' n' g cap : Nat} {v : Value} {xs xs' : List Value} (h : w.ownsRow base e size v n xs) (h' : w.ownsRow base' e' size' (.slice (some ⟨g, 0, none⟩) n' cap) n' xs') (hne : e' ≠ e) : v.ownBlock ≠ some g := by
  rcases h'.2 with ⟨h1, _⟩ | ⟨g', cap', cur, h1, _, hh, _⟩
  · cases h1
  · cases h1
    exact row_ne h hh hne
end Go.Proofs.Ytfjlbgegjjdflaa

namespace Go.Proofs.Ytfjlbgegjjdflaa
open Go.RowKit


set_option maxHeartbeats 2000000 in
theorem lawS_no (q s fr b : Int) (a : Option Addr) (b0 o cap : Nat) (l : List Stp) (c : Option Addr) (m ccap : Nat) (w : World) (hl : l.length ≤ 1048576) (_hm : m ≤ 1048576) (hs : StepsAt w a b0 o l)
    (hno : (pathB q s fr b l && decide (m = l.length + 1)) = false) :
    Calls Try.prog 11 #[.agg #[.int .i64 q, .int .i64 s, .slice a l.length cap, .int .i64 fr, .int .i64 b], .slice c m ccap] w fun e w' => e = .returned (.bool false) ∧ Below w.heap.size w w' := by
  rcases (show pathB q s fr b l = false ∨ (pathB q s fr b l = true ∧ ((m : Int) != (l.length : Int) + 1) = true) by
    cases h : pathB q s fr b l with
    | false => exact .inl rfl
    | true => rw [h] at hno; simp at hno; exact .inr ⟨rfl, by simp; omega⟩) with h1 | ⟨h1, h2⟩
  all_goals
    clear hno
    go_enter Try.func11, Try.ntmps11
    go_wp2_with fail
    refine (pathS_any _ _ _ _ _ b0 o _ _ _ hl (hs.alloc _)).mono ?_
    rintro e w1 ⟨rfl, hb1⟩
    have hb01 : Below w.heap.size w w1 := ((Below.refl w.heap.size w).alloc (Nat.le_refl _) _).trans (hb1.mono (by simp))
    have c2 : w1.cell? ⟨w.heap.size, 2, none⟩ = some (.slice a l.length cap) := by rw [hb1.cell (p := ⟨w.heap.size, 2, none⟩) (by simp)]; simp [go_sem]
    clear hb1
    go_wp2
    go_ret
    exact ⟨rfl, hb01⟩

set_option maxHeartbeats 4000000 in
theorem lawS_yes (q s fr b : Int) (a : Option Addr) (b0 o cap : Nat) (l : List Stp) (c : Option Addr) (cb co ccap : Nat) (zs : List Int) (w : World) (hl : l.length ≤ 1048576) (hs : StepsAt w a b0 o l) (hz : IntsAt w c cb co zs)
    (hp : pathB q s fr b l = true) (hn : zs.length = l.length + 1) :
    Calls Try.prog 11 #[.agg #[.int .i64 q, .int .i64 s, .slice a l.length cap, .int .i64 fr, .int .i64 b], .slice c zs.length ccap] w fun e w' => e = .returned (.bool (tickTo q s fr b l zs (l.length + 1))) ∧ Below w.heap.size w w' := by
  have HL := path_len hp
  have hneq : ((zs.length : Int) != (l.length : Int) + 1) = false := by simp; omega
  have hzne : zs ≠ [] := by intro e; subst e; simp at hn
  obtain rfl := hz.here hzne
  have hcb := hz.lt hzne
  have HN : Hid (zs.length = l.length + 1) := hn
  clear hn
  go_enter Try.func11, Try.ntmps11
  go_wp2_with fail
  refine (pathS_any _ _ _ _ _ b0 o _ _ _ hl (hs.alloc _)).mono ?_
  rintro e w1 ⟨rfl, hb1⟩
  have hB1 := (BoxP.new w q s fr b (.slice a l.length cap) 27).below hb1
  have c2 := hB1.p2
  clear hb1
  go_wp2
  clear c2
  go_loopw [5] (fun v wr => ∃ k : Nat, k ≤ zs.length ∧ v = .int .i64 k ∧ BoxP w wr q s fr b (.slice a l.length cap) ∧ tickTo q s fr b l zs k = true) (fun v _ => zs.length - (intOf v).toNat)
  case atStart => exact ⟨0, Nat.zero_le _, rfl, hB1, tickTo_zero _ _ _ _ _ _⟩
  case round =>
    clear hB1
    obtain ⟨k, hk, rfl, hB, hgood⟩ := hrel
    have HG : Hid (tickTo q s fr b l zs k = true) := hgood
    clear hgood
    by_cases hlt : k < zs.length
    · have hkl : k ≤ l.length := by have := HN.out; omega
      obtain ⟨z, hzk⟩ : ∃ z, zs[k]? = some z := ⟨zs[k], List.getElem?_eq_getElem hlt⟩
      have HZ : Hid (zs.getD k 0 = z) := by show _ = _; simp [List.getD, hzk]
      have d0 := (hz.below hB.old hz.lt).cell k z hzk
      clear hzk
      have hcw : cb < wr.heap.size := Nat.lt_of_lt_of_le hcb hB.old.size
      have qn := Cls.any wr
      have q0 := Cls.cell hcw
      have q1 := Cls.cell hB.lt
      have hSu : ∀ u : Cls wr, StepsAt u.it a b0 o l := fun u => hs.below (hB.old.trans (u.same.mono hB.old.size)) hs.lt
      have p0 := hB.p0
      have p1 := hB.p1
      have p2 := hB.p2
      have p3 := hB.p3
      have p4 := hB.p4
      have k0 : (0 : Int) ≤ (k : Int) := by omega
      have k1 : (k : Int) < (zs.length : Int) := by omega
      cases hwin : inB z (lowB fr l k) (highB b l k) with
      | false =>
        have G1 : Hid (tickTo q s fr b l zs (l.length + 1) = false) := by
          refine tickTo_not (k := k) (by omega) ?_
          unfold tickS winS; rw [HZ.out, hwin]; rfl
        go_wp2
        refine wp_region_cls (by kernel_rfl) (by kernel_rfl) ?_
        repeat (go_big_quiet_step (first | (go_at_call 42; exact Calls.cls_of (low_any _ _ _ _ _ b0 o _ _ _ _ hl (hSu _))) | (go_at_call 43; exact Calls.cls_of (high_any _ _ _ _ _ b0 o _ _ _ _ hl (hSu _))) | (go_at_call 41; exact Calls.cls_of_same (in_val _ _ _ _ _ hwin))))
        refine wpQuiet_nil ?_
        rintro _ ⟨u, rfl⟩
        go_wp2
        go_ret
        exact ⟨by rw [G1.out]; rfl, (hB.below u.same).old⟩
      | true =>
        have HW : Hid (winS fr b l zs k = true) := by show _ = _; unfold winS; rw [HZ.out, hwin]
        have hzr : 0 ≤ z ∧ z ≤ 10000 := by have := win_range hp HW.out; rw [HZ.out] at this; exact this
        rcases Nat.eq_zero_or_pos k with hk0 | hk0
        · have G1 : Hid (tickTo q s fr b l zs (k + 1) = true) := by
            show _ = _; rw [tickTo_succ HG.out]; unfold tickS; rw [HW.out, hk0]; rfl
          subst hk0
          simp only [Nat.add_zero] at d0
          go_wp2
          refine wp_region_cls (by kernel_rfl) (by kernel_rfl) ?_
          repeat (go_big_quiet_step (first | (go_at_call 42; exact Calls.cls_of (low_any _ _ _ _ _ b0 o _ _ _ _ hl (hSu _))) | (go_at_call 43; exact Calls.cls_of (high_any _ _ _ _ _ b0 o _ _ _ _ hl (hSu _))) | (go_at_call 41; exact Calls.cls_of_same (in_val _ _ _ _ _ hwin))))
          refine wpQuiet_nil ?_
          rintro _ ⟨u, rfl⟩
          have hBu := hB.below u.same
          clear q0 q1 hSu p0 p1 p2 p3 p4 qn
          have qn := Cls.any u.it
          go_wp2
          refine wp_region_cls (by kernel_rfl) (by kernel_rfl) ?_
          repeat (go_big_quiet_step (fail))
          refine wpQuiet_nil ?_
          rintro _ ⟨u2, rfl⟩
          go_wp2
          go_roundw
          case rel => exact ⟨0 + 1, by omega, by go_num, hBu.below u2.same, G1.out⟩
          case measure => simp [intOf]; omega
        · obtain ⟨m, rfl⟩ : ∃ m, k = m + 1 := ⟨k - 1, by omega⟩
          obtain ⟨y, hyk⟩ : ∃ y, zs[m]? = some y := ⟨zs[m]'(by omega), List.getElem?_eq_getElem (by omega)⟩
          have HY : Hid (zs.getD m 0 = y) := by show _ = _; simp [List.getD, hyk]
          have g0 := (hz.below hB.old hz.lt).cell m y hyk
          clear hyk
          have hyr : 0 ≤ y ∧ y ≤ 10000 := by have := win_range hp (tickTo_win HG.out (show m < m + 1 by omega)); rw [HY.out] at this; exact this
          have hml : m < l.length := by omega
          cases hst : inB (z - y) q (mostB s l m) with
          | false =>
            have G1 : Hid (tickTo q s fr b l zs (l.length + 1) = false) := by
              refine tickTo_not (k := m + 1) (by omega) ?_
              unfold tickS stayS; rw [HW.out, Nat.add_sub_cancel, HZ.out, HY.out, hst]; simp
            go_wp2
            refine wp_region_cls (by kernel_rfl) (by kernel_rfl) ?_
            repeat (go_big_quiet_step (first | (go_at_call 42; exact Calls.cls_of (low_any _ _ _ _ _ b0 o _ _ _ _ hl (hSu _))) | (go_at_call 43; exact Calls.cls_of (high_any _ _ _ _ _ b0 o _ _ _ _ hl (hSu _))) | (go_at_call 41; exact Calls.cls_of_same (in_val _ _ _ _ _ hwin))))
            refine wpQuiet_nil ?_
            rintro _ ⟨u, rfl⟩
            have hBu := hB.below u.same
            have e0 := (q0 u (co + (m + 1))).trans d0
            have e1 := (q0 u (co + m)).trans g0
            clear q0 q1 hSu p0 p1 p2 p3 p4 qn d0 g0
            have qn := Cls.any u.it
            have q0 := Cls.cell (Nat.lt_of_lt_of_le hcw u.same.size)
            have q1 := Cls.cell hBu.lt
            have hSu : ∀ u2 : Cls u.it, StepsAt u2.it a b0 o l := fun u2 => hs.below (hBu.old.trans (u2.same.mono hBu.old.size)) hs.lt
            have p0 := hBu.p0
            have p1 := hBu.p1
            have p2 := hBu.p2
            have p3 := hBu.p3
            have p4 := hBu.p4
            go_wp2
            refine wp_region_cls (by kernel_rfl) (by kernel_rfl) ?_
            repeat (go_big_quiet_step (first | (go_at_call 44; exact Calls.cls_of (most_any _ _ _ _ _ b0 o _ _ m _ hl (hSu _) hml)) | (go_at_call 41; exact Calls.cls_of_same (in_val _ _ _ _ _ hst))))
            refine wpQuiet_nil ?_
            rintro _ ⟨u2, rfl⟩
            go_wp2
            go_ret
            exact ⟨by rw [G1.out]; rfl, (hBu.below u2.same).old⟩
          | true =>
            have G1 : Hid (tickTo q s fr b l zs (m + 1 + 1) = true) := by
              show _ = _; rw [tickTo_succ HG.out]
              unfold tickS stayS; rw [HW.out, Nat.add_sub_cancel, HZ.out, HY.out, hst]; simp
            go_wp2
            refine wp_region_cls (by kernel_rfl) (by kernel_rfl) ?_
            repeat (go_big_quiet_step (first | (go_at_call 42; exact Calls.cls_of (low_any _ _ _ _ _ b0 o _ _ _ _ hl (hSu _))) | (go_at_call 43; exact Calls.cls_of (high_any _ _ _ _ _ b0 o _ _ _ _ hl (hSu _))) | (go_at_call 41; exact Calls.cls_of_same (in_val _ _ _ _ _ hwin))))
            refine wpQuiet_nil ?_
            rintro _ ⟨u, rfl⟩
            have hBu := hB.below u.same
            have e0 := (q0 u (co + (m + 1))).trans d0
            have e1 := (q0 u (co + m)).trans g0
            clear q0 q1 hSu p0 p1 p2 p3 p4 qn d0 g0
            have qn := Cls.any u.it
            have q0 := Cls.cell (Nat.lt_of_lt_of_le hcw u.same.size)
            have q1 := Cls.cell hBu.lt
            have hSu : ∀ u2 : Cls u.it, StepsAt u2.it a b0 o l := fun u2 => hs.below (hBu.old.trans (u2.same.mono hBu.old.size)) hs.lt
            have p0 := hBu.p0
            have p1 := hBu.p1
            have p2 := hBu.p2
            have p3 := hBu.p3
            have p4 := hBu.p4
            go_wp2
            refine wp_region_cls (by kernel_rfl) (by kernel_rfl) ?_
            repeat (go_big_quiet_step (first | (go_at_call 44; exact Calls.cls_of (most_any _ _ _ _ _ b0 o _ _ m _ hl (hSu _) hml)) | (go_at_call 41; exact Calls.cls_of_same (in_val _ _ _ _ _ hst))))
            refine wpQuiet_nil ?_
            rintro _ ⟨u2, rfl⟩
            go_wp2
            go_roundw
            case rel => exact ⟨m + 1 + 1, by omega, by go_num, hBu.below u2.same, G1.out⟩
            case measure => simp [intOf]; omega
    · have hkl : k = l.length + 1 := by have := HN.out; omega
      go_wp2
      go_ret
      exact ⟨by rw [← hkl, HG.out]; rfl, hB.old⟩
end Go.Proofs.Ytfjlbgegjjdflaa

namespace Go.Proofs.Ytfjlbgegjjdflaa
open Go.RowKit

theorem lawS_any (q s fr b : Int) (a : Option Addr) (b0 o cap : Nat) (l : List Stp) (c : Option Addr) (cb co ccap : Nat) (zs : List Int) (w : World) (hl : l.length ≤ 1048576) (hm : zs.length ≤ 1048576) (hs : StepsAt w a b0 o l) (hz : IntsAt w c cb co zs) :
    Calls Try.prog 11 #[.agg #[.int .i64 q, .int .i64 s, .slice a l.length cap, .int .i64 fr, .int .i64 b], .slice c zs.length ccap] w fun e w' => e = .returned (.bool (lawB q s fr b l zs)) ∧ Below w.heap.size w w' := by
  cases h : (pathB q s fr b l && decide (zs.length = l.length + 1)) with
  | false =>
    have e1 : lawB q s fr b l zs = false := by unfold lawB; rw [h]; rfl
    rw [e1]
    exact lawS_no q s fr b a b0 o cap l c zs.length ccap w hl hm hs h
  | true =>
    have e1 : lawB q s fr b l zs = tickTo q s fr b l zs (l.length + 1) := by unfold lawB; rw [h]; rfl
    rw [e1]
    simp only [Bool.and_eq_true, decide_eq_true_eq] at h
    exact lawS_yes q s fr b a b0 o cap l c cb co ccap zs w hl hs hz h.1 h.2
end Go.Proofs.Ytfjlbgegjjdflaa

namespace Go.Proofs.Ytfjlbgegjjdflaa
open Go.RowKit

theorem one_new (w : World) (x : Value) (t : TypeId) : ∀ (j : Nat) (u : Value), [x][j]? = some u → (w.alloc (.cells #[x] t)).cell? ((⟨w.heap.size, 0, none⟩ : Addr).add j) = some u := by
  intro j u h
  rcases j with _ | j
  · simp at h
    subst h
    simp [go_sem]
  · simp at h

set_option maxRecDepth 20000 in
set_option maxHeartbeats 1000000 in
theorem flyGoS_any (q s fr b : Int) (a : Option Addr) (b0 o cap : Nat) (l : List Stp) (cb co ccap : Nat) (zs : List Int) (d : Option Addr) (db do_ dcap : Nat) (asks : List Int) (w : World) (hl : l.length ≤ 1048576) (hzl : zs.length ≤ 1048576) (hal : asks.length ≤ 1048576)
    (hs : StepsAt w a b0 o l) (hz : IntsAt w (some ⟨cb, co, none⟩) cb co zs) (ha : IntsAt w d db do_ asks) :
    Calls Try.prog 28 #[.agg #[.int .i64 q, .int .i64 s, .slice a l.length cap, .int .i64 fr, .int .i64 b], .slice (some ⟨cb, co, none⟩) zs.length ccap, .slice d asks.length dcap] w
      fun e w' => ∃ v, e = .returned (.tuple #[v, .bool (flownB q s fr b l zs asks)]) ∧ w'.ownsRow w.heap.size 3 1 v (flownL q s fr b l zs asks).length (intCells (flownL q s fr b l zs asks)) ∧ Below w.heap.size w w' := by
  obtain ⟨i0, hi, hz0, hz1, hz2⟩ := info_parts int_info
  have hP0 := PathAt.new w q s fr b (.slice a l.length cap)
  have hE := owns_empty (w := w.alloc (.cells #[.int .i64 q, .int .i64 s, .slice a l.length cap, .int .i64 fr, .int .i64 b] 27)) (base := w.heap.size + 1) (e := 3) (size := 1) (by simp)
  simp only [World.size_alloc] at hE
  have hnew := ints_news ((hz.alloc (.cells #[.int .i64 q, .int .i64 s, .slice a l.length cap, .int .i64 fr, .int .i64 b] 27)).alloc (.cells #[] 3))
  go_enter Try.func28, Try.ntmps28
  go_wp2_with (at_builtin; refine wpList_append_own _ rfl (.tmp 13) (.tmp 14) 28 rfl (w.heap.size + 1) 3 i0 (.int .i64 0) 1 8 Try.underlying28 hi hz0 hz1 hz2 rfl (by decide) (.slice (some ⟨w.heap.size + 1, 0, none⟩) 0 0) 0 [] rfl hE ⟨cb, co, none⟩ zs.length ccap (intCells zs) rfl (by rw [intCells_length, Nat.mul_one]) hnew (intCells_one zs) (by unfold maxLen; omega) (by omega) (by simp) ?_; intro v1 w1 hown1 hgrow1 hnil1; refine stopAt ?_)
  simp only [Nat.zero_add, List.nil_append] at hown1
  have hb01 : Below w.heap.size w w1 := (((Below.refl w.heap.size w).alloc (Nat.le_refl _) _).alloc (by simp) _).grown hgrow1 (by simp; omega) (fun k e => by simp [Value.ownBlock] at e; omega)
  have hP1 : PathAt w1 w.heap.size q s fr b (.slice a l.length cap) := ⟨(hgrow1.block w.heap.size (by simp; omega) (by simp [Value.ownBlock])).trans (hP0.keep ((Below.refl (w.heap.size + 1) _).alloc (by simp) (.cells #[] 3)) (by omega)).it⟩
  refine (show wpList _ _ _ _ _ _ from ?_)
  clear hP0 hE hnew hgrow1 hnil1
  have z1 := hb01.size
  have zp := hP1.lt
  obtain ⟨⟨p0, p1, p2, p3, p4⟩, pf⟩ := hP1.cells
  obtain ⟨av, gv, cv, rfl, _, _⟩ := ints_owned hown1
  go_wp2_with fail
  refine (pathS_any _ _ _ _ _ b0 o _ _ _ hl (hs.below hb01 hs.lt)).mono ?_
  rintro e w2 ⟨rfl, hb2⟩
  have hP2 := hP1.keep hb2 zp
  have hown2 := owns_below hown1 hb2
  have hb02 := hb01.trans (hb2.mono hb01.size)
  have z2 := hb02.size
  clear hP1 hown1 hb2 p0 p1 p2 p3 p4 pf
  obtain ⟨⟨p0, p1, p2, p3, p4⟩, pf⟩ := hP2.cells
  have wl : IntKind.i64.wrap ((l.length : Int) + 1) = (l.length : Int) + 1 := by rw [IntKind.wrap_i64]; omega
  cases hp : pathB q s fr b l with
  | false =>
    have E : Hid (flownB q s fr b l zs asks = false) := lawB_path hp
    go_wp2
    go_ret2
    refine ⟨_, by rw [E.out]; rfl, ?_, hb02.alloc hb02.size _⟩
    rw [flown_no E.out]
    exact owns_empty hb02.size
  | true =>
    by_cases hlen : zs.length ≤ l.length + 1
    · have hpl := path_len hp
      have n1 : ¬ ((l.length : Int) + 1 < (zs.length : Int)) := by omega
      go_wp2_with fail
      go_loopw [8, 9] (fun v u wr => ∃ i : Nat, u = .int .i64 i ∧ zs.length + i ≤ l.length + 1 ∧ PathAt wr w.heap.size q s fr b (.slice a l.length cap) ∧ Below w.heap.size w wr ∧ wr.ownsRow (w.heap.size + 1) 3 1 v (zs.length + i) (intCells (goAt q s fr b l zs asks i)) ∧ ∀ j, j < i → goB q s fr b l (goAt q s fr b l zs asks j) = true) (fun _ u _ => l.length + 2 - (intOf u).toNat)
      case atStart => exact ⟨0, rfl, by omega, hP2, hb02, hown2, fun j hj => by omega⟩
      case round =>
        clear hP2 hb02 hown2 p0 p1 p2 p3 p4 pf zp z1 z2 hb01 n1
        obtain ⟨i, rfl, hi1, hP, hb, hown, hall⟩ := hrel
        have hgl := goAt_length q s fr b l zs asks i
        obtain ⟨F, hF⟩ : ∃ F, goAt q s fr b l zs asks i = F := ⟨_, rfl⟩
        rw [hF] at hgl
        have hown' := hown
        rw [hF, ← hgl] at hown'
        obtain ⟨va, vg, vc, rfl, hv, _⟩ := ints_owned hown'
        obtain ⟨⟨p0, p1, p2, p3, p4⟩, pf⟩ := hP.cells
        have HGL : Hid (F.length = zs.length + i) := hgl
        have hf1 : F.length ≤ l.length + 1 := by omega
        clear hgl hi1 hown
        by_cases hle : F.length ≤ l.length
        · have k1 : (F.length : Int) ≤ (l.length : Int) := by omega
          have hs3 := hs.below hb hs.lt
          obtain ⟨⟨y0, y1⟩, hy⟩ : ∃ y, goS q s fr b l F = y := ⟨_, rfl⟩
          obtain ⟨yb, hyb⟩ : ∃ y, goB q s fr b l F = y := ⟨_, rfl⟩
          have HS := flyNextS_any q s fr b a b0 o cap l va vg 0 vc F wr hl (by omega) hs3 hv
          rw [hy, hyb] at HS
          go_wp2_with fail
          refine HS.mono ?_
          rintro e w3 ⟨rfl, hb3⟩
          have hal3 : Below w3.heap.size w3 (w3.alloc (.cells #[.int .i64 y0, .int .i64 y1] 38)) := (Below.refl w3.heap.size w3).alloc (Nat.le_refl _) _
          have hb4 : Below wr.heap.size wr (w3.alloc (.cells #[.int .i64 y0, .int .i64 y1] 38)) := hb3.trans (hal3.mono hb3.size)
          have hP4 := hP.keep hb4 hP.lt
          have hb04 := hb.trans (hb4.mono hb.size)
          have hown4 := owns_below hown' hb4
          have sp4 : (w3.alloc (.cells #[.int .i64 y0, .int .i64 y1] 38)).heap[w3.heap.size]? = some (.cells #[.int .i64 y0, .int .i64 y1] 38 (0, 0)) := heap_alloc_new w3 _
          obtain ⟨s0, s1, _⟩ := blk2 sp4
          have hlt4 : w3.heap.size < (w3.alloc (.cells #[.int .i64 y0, .int .i64 y1] 38)).heap.size := by simp
          have sz4 := hb04.size
          clear HS hb3 hal3 hb4 p0 p1 p2 p3 p4 pf hs3 hown' hP hb
          cases yb with
          | false =>
            have E : Hid (flownB q s fr b l zs asks = false) := by
              show _ = _
              unfold flownB
              rw [goF_is (n := i) (by rw [hF]; exact hyb) hall, hF]
              exact lawB_len (by omega)
            clear hall hyb hF
            go_wp2
            go_ret2
            refine ⟨_, by rw [E.out]; rfl, ?_, hb04.alloc hb04.size _⟩
            rw [flown_no E.out]
            have ho := owns_empty (e := 3) (size := 1) hb04.size
            rw [World.size_alloc] at ho
            exact ho
          | true =>
            have hyr : y0 ≤ y1 := by
              have h1 := open_range hyb
              have h2 : goS q s fr b l F = openA q s fr b l l.length (fun i => F.getD i 0) F.length := by unfold goS; rw [if_pos hyb]
              rw [← h2, hy] at h1
              exact h1.2.1
            have HALL : Hid (∀ j, j < i + 1 → goB q s fr b l (goAt q s fr b l zs asks j) = true) := by
              intro j hj
              by_cases e : j = i
              · subst e; rw [hF]; exact hyb
              · exact hall j (by omega)
            have HY : Hid (goS q s fr b l F = (y0, y1)) := hy
            have HF : Hid (goAt q s fr b l zs asks i = F) := hF
            clear hall hyb hy hF
            by_cases hia : i < asks.length
            · obtain ⟨z, hzi⟩ : ∃ z, asks[i]? = some z := ⟨asks[i], List.getElem?_eq_getElem hia⟩
              have hne : asks ≠ [] := by intro e; subst e; simp at hia
              obtain rfl := ha.here hne
              have ha4 := ha.below hb04 ha.lt
              have zc := ha4.cell i z hzi
              have hdl := ha4.lt hne
              obtain ⟨n1, hn1⟩ : ∃ n1, mxB y0 z = n1 := ⟨_, rfl⟩
              obtain ⟨n2, hn2⟩ : ∃ n2, mnB n1 y1 = n2 := ⟨_, rfl⟩
              have m0 : (0 : Int) ≤ (i : Int) := by omega
              have m1 : (i : Int) < (asks.length : Int) := by omega
              have TK : Hid (goAt q s fr b l zs asks (i + 1) = F ++ [n2]) := by
                show _ = _
                rw [goAt, HF.out, HY.out]
                have hd : asks.drop i = z :: asks.drop (i + 1) := by
                  rw [List.drop_eq_getElem_cons hia]
                  congr 1
                  rw [List.getElem?_eq_getElem hia] at hzi
                  exact Option.some.inj hzi
                rw [hd]
                show F ++ [clampB (y0, y1) z] = _
                unfold clampB
                rw [hn1, hn2]
              have mi : (i : Int) < (asks.length : Int) := m1
              go_wp2
              generalize w3.alloc (.cells #[.int .i64 y0, .int .i64 y1] 38) = W4 at *
              have MX : ∀ (u : Cls W4), Calls Try.prog 59 #[.int .i64 y0, .int .i64 z] u.it fun e w' => e = .returned (.int .i64 n1) ∧ w' = u.it := fun u => by rw [← hn1]; exact max_any _ _ _
              have MN : ∀ (u : Cls W4), Calls Try.prog 58 #[.int .i64 n1, .int .i64 y1] u.it fun e w' => e = .returned (.int .i64 n2) ∧ w' = u.it := fun u => by rw [← hn2]; exact min_any _ _ _
              have qn := Cls.any W4
              have q1 := Cls.cell hdl
              have q2 := Cls.cell hlt4
              clear hn1 hn2
              refine wp_region_cls (by kernel_rfl) (by kernel_rfl) ?_
              repeat (go_big_quiet_step (first | (go_at_call 59; exact Calls.cls_of_same (MX _)) | (go_at_call 58; exact Calls.cls_of_same (MN _))))
              refine wpQuiet_nil ?_
              rintro _ ⟨u, rfl⟩
              have hown5 := owns_below hown4 u.same
              have hb05 := hb04.trans (u.same.mono hb04.size)
              have hP5 := hP4.keep u.same hP4.lt
              clear q1 q2 qn MX MN ha4 hown4 hb04 hP4 sp4 s0 s1 hlt4 sz4 zc hdl
              generalize u.it = W5 at *
              have hal5 : Below W5.heap.size W5 (W5.alloc (.cells #[.int .i64 n2] 3)) := (Below.refl W5.heap.size W5).alloc (Nat.le_refl _) _
              have hown6 := owns_below hown5 hal5
              have hnew6 : ∀ (j : Nat) (u : Value), [Value.int .i64 n2][j]? = some u → (W5.alloc (.cells #[.int .i64 n2] 3)).cell? ((⟨W5.heap.size, 0, none⟩ : Addr).add j) = some u := one_new W5 _ _
              have sz5 := hb05.size
              go_wp2_with (at_builtin; refine wpList_append_own _ rfl (.tmp 62) (.tmp 64) 28 rfl (w.heap.size + 1) 3 i0 (.int .i64 0) 1 8 Try.underlying28 hi hz0 hz1 hz2 rfl (by decide) _ F.length (intCells F) rfl hown6 ⟨W5.heap.size, 0, none⟩ 1 1 [.int .i64 n2] rfl rfl hnew6 (by simp [Value.oneCell']) (by unfold maxLen; omega) (by omega) (by simp; have := hP5.lt; omega) ?_; intro v7 w7 hown7 hgrow7 hnil7)
              go_roundw
              case rel =>
                have hbase := owns_base hown6
                have hne7 : some w.heap.size ≠ (Value.slice va F.length vc).ownBlock := fun e => by have := hbase _ e.symm; omega
                have hP6 := hP5.keep hal5 hP5.lt
                refine ⟨i + 1, by go_num, by have := HGL.out; omega, ⟨(hgrow7.block _ hP6.lt hne7).trans hP6.it⟩, (hb05.alloc hb05.size _).grown hgrow7 (by simp; omega) (fun k e => by have := hbase k e; omega), ?_, HALL.out⟩
                rw [TK.out, intCells_snoc, ← Nat.add_assoc, ← HGL.out]
                exact hown7
              case measure => have := HGL.out; simp [intOf]; omega
            · have m1 : ¬ ((i : Int) < (asks.length : Int)) := by omega
              have hib : i ≤ 100 := by have := HGL.out; omega
              have TK : Hid (goAt q s fr b l zs asks (i + 1) = F ++ [y0]) := by
                show _ = _
                rw [goAt, HF.out, HY.out, List.drop_eq_nil_of_le (by omega)]
                rfl
              have hal5 : Below (w3.alloc (.cells #[.int .i64 y0, .int .i64 y1] 38)).heap.size (w3.alloc (.cells #[.int .i64 y0, .int .i64 y1] 38)) ((w3.alloc (.cells #[.int .i64 y0, .int .i64 y1] 38)).alloc (.cells #[.int .i64 y0] 3)) := (Below.refl _ _).alloc (Nat.le_refl _) _
              have hown6 := owns_below hown4 hal5
              have hnew6 := one_new (w3.alloc (.cells #[.int .i64 y0, .int .i64 y1] 38)) (.int .i64 y0) 3
              have hP6 := hP4.keep hal5 hP4.lt
              have HB4 : Hid (Below w.heap.size w (w3.alloc (.cells #[.int .i64 y0, .int .i64 y1] 38))) := hb04
              have sz6 : w.heap.size < w3.heap.size + 1 := by have := hP4.lt; simp at this; omega
              simp only [World.size_alloc] at hnew6
              clear hb04 hP4 hown4 sp4
              go_wp2_with (at_builtin; refine wpList_append_own _ rfl (.tmp 62) (.tmp 64) 28 rfl (w.heap.size + 1) 3 i0 (.int .i64 0) 1 8 Try.underlying28 hi hz0 hz1 hz2 rfl (by decide) _ F.length (intCells F) rfl hown6 ⟨w3.heap.size + 1, 0, none⟩ 1 1 [.int .i64 y0] rfl rfl hnew6 (by simp [Value.oneCell']) (by unfold maxLen; omega) (by omega) (by simp; omega) ?_; intro v7 w7 hown7 hgrow7 hnil7)
              go_roundw
              case rel =>
                have hbase := owns_base hown6
                have hne7 : some w.heap.size ≠ (Value.slice va F.length vc).ownBlock := fun e => by have := hbase _ e.symm; omega
                refine ⟨i + 1, by go_num, by have := HGL.out; omega, ⟨(hgrow7.block _ hP6.lt hne7).trans hP6.it⟩, (HB4.out.alloc HB4.out.size _).grown hgrow7 (by simp; omega) (fun k e => by have := hbase k e; omega), ?_, HALL.out⟩
                rw [TK.out, intCells_snoc, ← Nat.add_assoc, ← HGL.out]
                exact hown7
              case measure => have := HGL.out; simp [intOf]; omega
        · have k1 : ¬ ((F.length : Int) ≤ (l.length : Int)) := by omega
          have hFl : F.length = l.length + 1 := by omega
          have HFN : Hid (goF q s fr b l zs asks = F) := by
            show _ = _
            rw [goF_is (n := i) ?_ hall]
            · exact hF
            · rw [hF]
              exact goB_long (by omega)
          have hs3 := hs.below hb hs.lt
          have HL := lawS_any q s fr b a b0 o cap l va vg 0 vc F wr hl (by omega) hs3 hv
          obtain ⟨yb, hyb⟩ : ∃ y, lawB q s fr b l F = y := ⟨_, rfl⟩
          rw [hyb] at HL
          clear hFl hall hF
          go_wp2_with fail
          refine HL.mono ?_
          rintro e w3 ⟨rfl, hb3⟩
          have hown3 := owns_below hown' hb3
          have hb03 := hb.trans (hb3.mono hb.size)
          clear hown' hb3 HL hs3 p0 p1 p2 p3 p4 pf hP hb hv
          cases yb with
          | false =>
            have E : Hid (flownB q s fr b l zs asks = false) := by show _ = _; unfold flownB; rw [HFN.out]; exact hyb
            clear hyb
            go_wp2
            go_ret2
            refine ⟨_, by rw [E.out]; rfl, ?_, hb03.alloc hb03.size _⟩
            rw [flown_no E.out]
            exact owns_empty hb03.size
          | true =>
            have E : Hid (flownB q s fr b l zs asks = true) := by show _ = _; unfold flownB; rw [HFN.out]; exact hyb
            have E2 : Hid (flownL q s fr b l zs asks = F) := by show _ = _; unfold flownL; rw [E.out, HFN.out]; rfl
            clear hyb
            go_wp2
            go_ret2
            refine ⟨_, by rw [E.out]; rfl, ?_, hb03⟩
            rw [E2.out]
            exact ⟨hown3.1, hown3.2.imp id fun ⟨g, cap, cur, h1, h2, h3⟩ => ⟨g, cap, cur, h1, by omega, h3⟩⟩
    · have E : Hid (flownB q s fr b l zs asks = false) := by
        show _ = _
        unfold flownB
        rw [goF_is (n := 0) (goB_long (by simp only [goAt]; omega)) (fun j hj => by omega)]
        exact lawB_len (by simp only [goAt]; omega)
      have n1 : (l.length : Int) + 1 < (zs.length : Int) := by omega
      go_wp2
      go_ret2
      refine ⟨_, by rw [E.out]; rfl, ?_, hb02.alloc hb02.size _⟩
      rw [flown_no E.out]
      exact owns_empty hb02.size
end Go.Proofs.Ytfjlbgegjjdflaa

namespace Go.Proofs.Ytfjlbgegjjdflaa
open Go.RowKit

set_option maxRecDepth 20000 in
set_option maxHeartbeats 1000000 in
theorem flySpansS_any (q s fr b : Int) (a : Option Addr) (b0 o cap : Nat) (l : List Stp) (w : World) (hl : l.length ≤ 1048576) (hs : StepsAt w a b0 o l) :
    Calls Try.prog 8 #[.agg #[.int .i64 q, .int .i64 s, .slice a l.length cap, .int .i64 fr, .int .i64 b]] w
      fun e w' => ∃ v, e = .returned (.tuple #[v, .bool (flyB q s fr b l)]) ∧ w'.ownsRow w.heap.size 38 2 v (flyL q s fr b l).length (spanCells (flyL q s fr b l)) ∧ Below w.heap.size w w' := by
  have hB0 := BoxP.new w q s fr b (.slice a l.length cap) 27
  cases hp : pathB q s fr b l with
  | false =>
    have e1 : flyB q s fr b l = false := by unfold flyB; rw [hp]; rfl
    have e2 : flyL q s fr b l = [] := by unfold flyL; rw [hp]; rfl
    rw [e1, e2]
    go_enter Try.func8, Try.ntmps8
    go_wp2_with fail
    refine (pathS_any _ _ _ _ _ b0 o _ _ _ hl (hs.alloc _)).mono ?_
    rw [hp]
    rintro e w1 ⟨rfl, hb1⟩
    have hB1 := hB0.below hb1
    go_wp2
    go_ret2
    exact ⟨_, rfl, owns_empty hB1.old.size, hB1.old.alloc hB1.old.size _⟩
  | true =>
    have e1 : flyB q s fr b l = spanB q s fr b l := by unfold flyB; rw [hp]; rfl
    have e2 : flyL q s fr b l = spansL q s fr b l := by unfold flyL; rw [hp]; rfl
    rw [e1, e2]
    go_enter Try.func8, Try.ntmps8
    go_wp2_with fail
    refine (pathS_any _ _ _ _ _ b0 o _ _ _ hl (hs.alloc _)).mono ?_
    rw [hp]
    rintro e w1 ⟨rfl, hb1⟩
    have hB1 := hB0.below hb1
    have p0 := hB1.p0
    have p1 := hB1.p1
    have p2 := hB1.p2
    have p3 := hB1.p3
    have p4 := hB1.p4
    have z1 := hB1.lt
    clear hb1
    go_wp2_with fail
    refine (spansS_wide _ _ _ _ _ b0 o _ _ _ (hs.below hB1.old hs.lt) (Wide.of hp)).mono ?_
    rintro e w2 ⟨v, rfl, hown, hb2⟩
    go_wp2
    go_ret2
    exact ⟨_, rfl, ⟨hown.1, hown.2.imp id fun ⟨g, cap, cur, h1, h2, h3⟩ => ⟨g, cap, cur, h1, by omega, h3⟩⟩, hB1.old.trans (hb2.mono hB1.old.size)⟩
end Go.Proofs.Ytfjlbgegjjdflaa

namespace Go.Proofs.Ytfjlbgegjjdflaa
open Go.RowKit

/-- The contract of the program's FlySpans. -/
def SpansSaid : Prop := ∀ (q s fr b : Int) (a : Option Addr) (b0 o cap : Nat) (l : List Stp) (w : World), l.length ≤ 1048576 → StepsAt w a b0 o l →
    Calls Try.prog 7 #[.agg #[.int .i64 q, .int .i64 s, .slice a l.length cap, .int .i64 fr, .int .i64 b]] w
      fun e w' => ∃ v, e = .returned (.tuple #[v, .bool (flyB q s fr b l)]) ∧ w'.ownsRow w.heap.size 38 2 v (flyL q s fr b l).length (spanCells (flyL q s fr b l)) ∧ Below w.heap.size w w'
end Go.Proofs.Ytfjlbgegjjdflaa

namespace Go.Proofs.Ytfjlbgegjjdflaa
open Go.RowKit

theorem flyL_le (q s fr b : Int) (l : List Stp) : (flyL q s fr b l).length ≤ l.length + 1 := by
  unfold flyL
  split
  · unfold spansL
    split
    · simp
    · simp
  · simp

theorem row_ne3 {w : World} {base base' e e' size size' n n' : Nat} {v v' : Value} {xs xs' : List Value} (h : w.ownsRow base e size v n xs) (h' : w.ownsRow base' e' size' v' n' xs') (hne : e ≠ e') : ∀ k, v.ownBlock = some k → v'.ownBlock ≠ some k := by
  intro k hk hk'
  rcases h.2 with ⟨rfl, _⟩ | ⟨g, cap, cur, rfl, _, hh, _⟩
  · simp [Value.ownBlock] at hk
  · rcases h'.2 with ⟨rfl, _⟩ | ⟨g', cap', cur', rfl, _, hh', _⟩
    · simp [Value.ownBlock] at hk'
    · simp [Value.ownBlock] at hk hk'
      subst hk
      subst hk'
      rw [hh] at hh'
      have := congrArg (fun o => match o with | some (Obj.cells _ t _) => t | _ => 0) hh'
      exact hne (by simpa using this)
theorem owns_other1 {w w' : World} {base e size n : Nat} {v : Value} {xs : List Value} {row : Option Nat} (h : w.ownsRow base e size v n xs) (hg : w.grownBy w' row) (hr : ∀ k, v.ownBlock = some k → row ≠ some k) : w'.ownsRow base e size v n xs :=
  ⟨h.1, h.2.imp id fun ⟨g, cap, cur, h1, h2, h3, h4⟩ => ⟨g, cap, cur, h1, h2, (hg.block g (lt_of_block h3) (fun e => hr g (by rw [h1]; rfl) e.symm)).trans h3, h4⟩⟩

theorem lowP_any (x y : Int) (w : World) : Calls Try.prog 46 #[.agg #[.int .i64 x, .int .i64 y]] w fun e w' => e = .returned (.int .i64 x) ∧ Below w.heap.size w w' := by
  go_enter Try.func46, Try.ntmps46
  go_wp2
  go_ret
  exact ⟨rfl, by first | exact Below.refl _ _ | exact (Below.refl _ _).alloc (Nat.le_refl _) _⟩

set_option maxRecDepth 20000 in
set_option maxHeartbeats 4000000 in
theorem ticks_low (hI : SpansSaid) (q s fr b : Int) (a : Option Addr) (b0 o cap : Nat) (l : List Stp) (w : World) (hl : l.length ≤ 1048575) (hs : StepsAt w a b0 o l) :
    Calls Try.prog 45 #[.agg #[.int .i64 q, .int .i64 s, .slice a l.length cap, .int .i64 fr, .int .i64 b], .func (.func 46) #[] #[]] w
      fun e w' => ∃ v, e = .returned v ∧ w'.ownsRow w.heap.size 3 1 v ((flyL q s fr b l).map (·.1)).length (intCells ((flyL q s fr b l).map (·.1))) ∧ Below w.heap.size w w' := by
  obtain ⟨i0, hinf, hz0, hz1, hz2⟩ := info_parts int_info
  have B0 := (Below.refl w.heap.size w).alloc (Nat.le_refl _) (.cells #[.int .i64 q, .int .i64 s, .slice a l.length cap, .int .i64 fr, .int .i64 b] 27)
  go_enter Try.func45, Try.ntmps45
  go_wp2_with fail
  refine (hI q s fr b a b0 o cap l _ (by omega) (hs.alloc _)).mono ?_
  rintro e w1 ⟨v1, rfl, ho1, hb1⟩
  have hfl := flyL_le q s fr b l
  generalize flyB q s fr b l = ok
  obtain ⟨sp, hspE⟩ : ∃ sp, flyL q s fr b l = sp := ⟨_, rfl⟩
  rw [hspE] at ho1 hfl
  have HSP : Hid (flyL q s fr b l = sp) := hspE
  clear hspE
  have B1 := B0.trans (hb1.mono B0.size)
  clear B0 hb1
  have hsl : ∃ va vc, v1 = .slice va sp.length vc := by
    rcases ho1.2 with ⟨rfl, h0⟩ | ⟨g, c, cur, rfl, _⟩
    · exact ⟨none, 0, by rw [h0]⟩
    · exact ⟨_, c, rfl⟩
  obtain ⟨va, vc, rfl⟩ := hsl
  have ho2 : w1.ownsRow w.heap.size 38 2 (.slice va sp.length vc) sp.length (spanCells sp) := ⟨ho1.1, ho1.2.imp id fun ⟨g, cap, cur, h1, h2, h3⟩ => ⟨g, cap, cur, h1, by simp at h2; omega, h3⟩⟩
  clear ho1
  go_wp2
  go_loopw [7, 17] (fun s7 s17 wr => ∃ (v : Value) (k : Nat), s7 = v ∧ s17 = .int .i64 (k : Int) ∧ k ≤ sp.length ∧ Below w.heap.size w wr ∧ wr.ownsRow w.heap.size 3 1 v k (intCells ((sp.take k).map (·.1))) ∧ wr.ownsRow w.heap.size 38 2 (.slice va sp.length vc) sp.length (spanCells sp)) (fun _ s17 _ => sp.length - (intOf s17).toNat)
  case atStart => exact ⟨_, 0, rfl, rfl, by omega, B1, by simpa [intCells] using World.ownsRow_nil _ _ _ _, ho2⟩
  case round =>
    obtain ⟨v, k, rfl, rfl, hk, B2, ho3, hos⟩ := hrel
    clear ho2 B1
    have k0 : (0 : Int) ≤ (k : Int) := by omega
    by_cases hlt : k < sp.length
    · have k1 : (k : Int) < (sp.length : Int) := by omega
      obtain ⟨⟨lo, hi⟩, hsp⟩ : ∃ x, sp[k]? = some x := ⟨_, List.getElem?_eq_getElem hlt⟩
      obtain ⟨y0, y1⟩ := spanCells_get sp k _ hsp
      obtain ⟨g, gc, hgv, hg1, hg2⟩ := owns_some hos (by omega)
      cases hgv
      have x0 := (hos.cellAt (k * 2) (by omega)).trans y0
      have x1 := (hos.cellAt (k * 2 + 1) (by omega)).trans y1
      have HT : Hid ((sp.take (k + 1)).map (·.1) = (sp.take k).map (·.1) ++ [lo]) := by
        show _ = _
        rw [List.take_add_one, hsp]
        simp
      clear y0 y1 hsp
      go_wp2_with fail
      refine (lowP_any lo hi _).mono ?_
      rintro e w2 ⟨rfl, hb2⟩
      have hal := (Below.refl wr.heap.size wr).alloc (Nat.le_refl _) (.cells #[.int .i64 lo, .int .i64 hi] 38)
      have hb12 : Below wr.heap.size wr w2 := hal.trans (hb2.mono (by simp))
      have ho4 := owns_below (owns_below ho3 hb12) ((Below.refl _ _).alloc (Nat.le_refl _) (.cells #[.int .i64 lo] 3))
      have hos4 := owns_below (owns_below hos hb12) ((Below.refl _ _).alloc (Nat.le_refl _) (.cells #[.int .i64 lo] 3))
      have B3 := (B2.trans (hb12.mono B2.size)).alloc (Nat.le_trans B2.size hb12.size) (.cells #[.int .i64 lo] 3)
      have hnew := one_new w2 (.int .i64 lo) 3
      have hw2 : w.heap.size ≤ w2.heap.size := Nat.le_trans B2.size hb12.size
      clear ho3 hos x0 x1 hal hb2 hb12 B2
      go_wp2_with (at_builtin; refine wpList_append_own _ rfl (.tmp 21) (.tmp 25) 28 rfl w.heap.size 3 i0 (.int .i64 0) 1 8 Try.underlying28 hinf hz0 hz1 hz2 rfl (by decide) u7 k (intCells ((sp.take k).map (·.1))) rfl ho4 ⟨w2.heap.size, 0, none⟩ 1 1 [.int .i64 lo] rfl rfl hnew (by simp [Value.oneCell']) (by unfold maxLen; omega) (by omega) (by simp; omega) ?_; intro v6 w6 ho6 hg6 _)
      have hv5 := owns_base ho4
      have B6 := B3.grown hg6 (by simp; omega) hv5
      have hos6 := owns_other1 hos4 hg6 (fun k e => fun e' => row_ne3 hos4 ho4 (by decide) k e e')
      rw [← intCells_snoc, ← HT.out] at ho6
      go_roundw
      case rel => exact ⟨v6, k + 1, rfl, by simp, by omega, B6, ho6, hos6⟩
      case measure => simp [intOf]; omega
    · obtain rfl : k = sp.length := by omega
      have k1 : ¬ (sp.length : Int) < (sp.length : Int) := by omega
      go_wp2
      refine bodyPost_ret (v := u7) (by simp [results, Try.results45, go_sem]) rfl ⟨u7, rfl, ?_, B2⟩
      rw [List.take_length] at ho3
      rw [HSP.out]
      simpa using ho3

theorem flyfirst_any (hI : SpansSaid) (q s fr b : Int) (a : Option Addr) (b0 o cap : Nat) (l : List Stp) (w : World) (hl : l.length ≤ 1048575) (hs : StepsAt w a b0 o l) :
    Calls Try.prog 12 #[.agg #[.int .i64 q, .int .i64 s, .slice a l.length cap, .int .i64 fr, .int .i64 b]] w
      fun e w' => ∃ v, e = .returned v ∧ w'.ownsRow w.heap.size 3 1 v ((flyL q s fr b l).map (·.1)).length (intCells ((flyL q s fr b l).map (·.1))) ∧ Below w.heap.size w w' := by
  have B0 := (Below.refl w.heap.size w).alloc (Nat.le_refl _) (.cells #[.int .i64 q, .int .i64 s, .slice a l.length cap, .int .i64 fr, .int .i64 b] 27)
  go_enter Try.func12, Try.ntmps12
  go_wp2_with fail
  refine (ticks_low hI q s fr b a b0 o cap l _ hl (hs.alloc _)).mono ?_
  rintro e w1 ⟨v1, rfl, ho1, hb1⟩
  have B1 := B0.trans (hb1.mono B0.size)
  go_wp2
  refine bodyPost_ret (v := v1) (by simp [results, Try.results12, go_sem]) rfl ⟨v1, rfl, ⟨ho1.1, ho1.2.imp id fun ⟨g, cap, cur, h1, h2, h3⟩ => ⟨g, cap, cur, h1, by simp at h2; omega, h3⟩⟩, B1⟩

theorem highP_any (x y : Int) (w : World) : Calls Try.prog 47 #[.agg #[.int .i64 x, .int .i64 y]] w fun e w' => e = .returned (.int .i64 y) ∧ Below w.heap.size w w' := by
  go_enter Try.func47, Try.ntmps47
  go_wp2
  go_ret
  exact ⟨rfl, by first | exact Below.refl _ _ | exact (Below.refl _ _).alloc (Nat.le_refl _) _⟩

set_option maxRecDepth 20000 in
set_option maxHeartbeats 4000000 in
theorem ticks_high (hI : SpansSaid) (q s fr b : Int) (a : Option Addr) (b0 o cap : Nat) (l : List Stp) (w : World) (hl : l.length ≤ 1048575) (hs : StepsAt w a b0 o l) :
    Calls Try.prog 45 #[.agg #[.int .i64 q, .int .i64 s, .slice a l.length cap, .int .i64 fr, .int .i64 b], .func (.func 47) #[] #[]] w
      fun e w' => ∃ v, e = .returned v ∧ w'.ownsRow w.heap.size 3 1 v ((flyL q s fr b l).map (·.2)).length (intCells ((flyL q s fr b l).map (·.2))) ∧ Below w.heap.size w w' := by
  obtain ⟨i0, hinf, hz0, hz1, hz2⟩ := info_parts int_info
  have B0 := (Below.refl w.heap.size w).alloc (Nat.le_refl _) (.cells #[.int .i64 q, .int .i64 s, .slice a l.length cap, .int .i64 fr, .int .i64 b] 27)
  go_enter Try.func45, Try.ntmps45
  go_wp2_with fail
  refine (hI q s fr b a b0 o cap l _ (by omega) (hs.alloc _)).mono ?_
  rintro e w1 ⟨v1, rfl, ho1, hb1⟩
  have hfl := flyL_le q s fr b l
  generalize flyB q s fr b l = ok
  obtain ⟨sp, hspE⟩ : ∃ sp, flyL q s fr b l = sp := ⟨_, rfl⟩
  rw [hspE] at ho1 hfl
  have HSP : Hid (flyL q s fr b l = sp) := hspE
  clear hspE
  have B1 := B0.trans (hb1.mono B0.size)
  clear B0 hb1
  have hsl : ∃ va vc, v1 = .slice va sp.length vc := by
    rcases ho1.2 with ⟨rfl, h0⟩ | ⟨g, c, cur, rfl, _⟩
    · exact ⟨none, 0, by rw [h0]⟩
    · exact ⟨_, c, rfl⟩
  obtain ⟨va, vc, rfl⟩ := hsl
  have ho2 : w1.ownsRow w.heap.size 38 2 (.slice va sp.length vc) sp.length (spanCells sp) := ⟨ho1.1, ho1.2.imp id fun ⟨g, cap, cur, h1, h2, h3⟩ => ⟨g, cap, cur, h1, by simp at h2; omega, h3⟩⟩
  clear ho1
  go_wp2
  go_loopw [7, 17] (fun s7 s17 wr => ∃ (v : Value) (k : Nat), s7 = v ∧ s17 = .int .i64 (k : Int) ∧ k ≤ sp.length ∧ Below w.heap.size w wr ∧ wr.ownsRow w.heap.size 3 1 v k (intCells ((sp.take k).map (·.2))) ∧ wr.ownsRow w.heap.size 38 2 (.slice va sp.length vc) sp.length (spanCells sp)) (fun _ s17 _ => sp.length - (intOf s17).toNat)
  case atStart => exact ⟨_, 0, rfl, rfl, by omega, B1, by simpa [intCells] using World.ownsRow_nil _ _ _ _, ho2⟩
  case round =>
    obtain ⟨v, k, rfl, rfl, hk, B2, ho3, hos⟩ := hrel
    clear ho2 B1
    have k0 : (0 : Int) ≤ (k : Int) := by omega
    by_cases hlt : k < sp.length
    · have k1 : (k : Int) < (sp.length : Int) := by omega
      obtain ⟨⟨lo, hi⟩, hsp⟩ : ∃ x, sp[k]? = some x := ⟨_, List.getElem?_eq_getElem hlt⟩
      obtain ⟨y0, y1⟩ := spanCells_get sp k _ hsp
      obtain ⟨g, gc, hgv, hg1, hg2⟩ := owns_some hos (by omega)
      cases hgv
      have x0 := (hos.cellAt (k * 2) (by omega)).trans y0
      have x1 := (hos.cellAt (k * 2 + 1) (by omega)).trans y1
      have HT : Hid ((sp.take (k + 1)).map (·.2) = (sp.take k).map (·.2) ++ [hi]) := by
        show _ = _
        rw [List.take_add_one, hsp]
        simp
      clear y0 y1 hsp
      go_wp2_with fail
      refine (highP_any lo hi _).mono ?_
      rintro e w2 ⟨rfl, hb2⟩
      have hal := (Below.refl wr.heap.size wr).alloc (Nat.le_refl _) (.cells #[.int .i64 lo, .int .i64 hi] 38)
      have hb12 : Below wr.heap.size wr w2 := hal.trans (hb2.mono (by simp))
      have ho4 := owns_below (owns_below ho3 hb12) ((Below.refl _ _).alloc (Nat.le_refl _) (.cells #[.int .i64 hi] 3))
      have hos4 := owns_below (owns_below hos hb12) ((Below.refl _ _).alloc (Nat.le_refl _) (.cells #[.int .i64 hi] 3))
      have B3 := (B2.trans (hb12.mono B2.size)).alloc (Nat.le_trans B2.size hb12.size) (.cells #[.int .i64 hi] 3)
      have hnew := one_new w2 (.int .i64 hi) 3
      have hw2 : w.heap.size ≤ w2.heap.size := Nat.le_trans B2.size hb12.size
      clear ho3 hos x0 x1 hal hb2 hb12 B2
      go_wp2_with (at_builtin; refine wpList_append_own _ rfl (.tmp 21) (.tmp 25) 28 rfl w.heap.size 3 i0 (.int .i64 0) 1 8 Try.underlying28 hinf hz0 hz1 hz2 rfl (by decide) u7 k (intCells ((sp.take k).map (·.2))) rfl ho4 ⟨w2.heap.size, 0, none⟩ 1 1 [.int .i64 hi] rfl rfl hnew (by simp [Value.oneCell']) (by unfold maxLen; omega) (by omega) (by simp; omega) ?_; intro v6 w6 ho6 hg6 _)
      have hv5 := owns_base ho4
      have B6 := B3.grown hg6 (by simp; omega) hv5
      have hos6 := owns_other1 hos4 hg6 (fun k e => fun e' => row_ne3 hos4 ho4 (by decide) k e e')
      rw [← intCells_snoc, ← HT.out] at ho6
      go_roundw
      case rel => exact ⟨v6, k + 1, rfl, by simp, by omega, B6, ho6, hos6⟩
      case measure => simp [intOf]; omega
    · obtain rfl : k = sp.length := by omega
      have k1 : ¬ (sp.length : Int) < (sp.length : Int) := by omega
      go_wp2
      refine bodyPost_ret (v := u7) (by simp [results, Try.results45, go_sem]) rfl ⟨u7, rfl, ?_, B2⟩
      rw [List.take_length] at ho3
      rw [HSP.out]
      simpa using ho3

theorem flylast_any (hI : SpansSaid) (q s fr b : Int) (a : Option Addr) (b0 o cap : Nat) (l : List Stp) (w : World) (hl : l.length ≤ 1048575) (hs : StepsAt w a b0 o l) :
    Calls Try.prog 13 #[.agg #[.int .i64 q, .int .i64 s, .slice a l.length cap, .int .i64 fr, .int .i64 b]] w
      fun e w' => ∃ v, e = .returned v ∧ w'.ownsRow w.heap.size 3 1 v ((flyL q s fr b l).map (·.2)).length (intCells ((flyL q s fr b l).map (·.2))) ∧ Below w.heap.size w w' := by
  have B0 := (Below.refl w.heap.size w).alloc (Nat.le_refl _) (.cells #[.int .i64 q, .int .i64 s, .slice a l.length cap, .int .i64 fr, .int .i64 b] 27)
  go_enter Try.func13, Try.ntmps13
  go_wp2_with fail
  refine (ticks_high hI q s fr b a b0 o cap l _ hl (hs.alloc _)).mono ?_
  rintro e w1 ⟨v1, rfl, ho1, hb1⟩
  have B1 := B0.trans (hb1.mono B0.size)
  go_wp2
  refine bodyPost_ret (v := v1) (by simp [results, Try.results13, go_sem]) rfl ⟨v1, rfl, ⟨ho1.1, ho1.2.imp id fun ⟨g, cap, cur, h1, h2, h3⟩ => ⟨g, cap, cur, h1, by simp at h2; omega, h3⟩⟩, B1⟩

end Go.Proofs.Ytfjlbgegjjdflaa

namespace Go.Proofs.Ytfjlbgegjjdflaa
open Go.RowKit

theorem row_ne2 {w : World} {base base' e e' size size' n n' : Nat} {v v' : Value} {xs xs' : List Value} (h : w.ownsRow base e size v n xs) (h' : w.ownsRow base' e' size' v' n' xs') (hne : e ≠ e') : ∀ k, v.ownBlock = some k → v'.ownBlock ≠ some k := by
  intro k hk hk'
  rcases h.2 with ⟨rfl, _⟩ | ⟨g, cap, cur, rfl, _, hh, _⟩
  · simp [Value.ownBlock] at hk
  · rcases h'.2 with ⟨rfl, _⟩ | ⟨g', cap', cur', rfl, _, hh', _⟩
    · simp [Value.ownBlock] at hk'
    · simp [Value.ownBlock] at hk hk'
      subst hk
      subst hk'
      rw [hh] at hh'
      have := congrArg (fun o => match o with | some (Obj.cells _ t _) => t | _ => 0) hh'
      exact hne (by simpa using this)
theorem owns_other {w w' : World} {base e size n : Nat} {v : Value} {xs : List Value} {row : Option Nat} (h : w.ownsRow base e size v n xs) (hg : w.grownBy w' row) (hr : ∀ k, v.ownBlock = some k → row ≠ some k) : w'.ownsRow base e size v n xs :=
  ⟨h.1, h.2.imp id fun ⟨g, cap, cur, h1, h2, h3, h4⟩ => ⟨g, cap, cur, h1, h2, (hg.block g (lt_of_block h3) (fun e => hr g (by rw [h1]; rfl) e.symm)).trans h3, h4⟩⟩
/-- What the ticks that are asked for come to. -/
def AskedPost (w : World) (B : Nat) (R : Rdr) (p : Nat) (e : Ending) (w' : World) : Prop :=
  ∃ v zs p', e = .returned v ∧ zs.length ≤ 42 ∧ w'.ownsRow w.heap.size 3 1 v zs.length (intCells zs) ∧ p' ≤ p + 50 ∧ RdW w w' B R p'

set_option maxRecDepth 20000 in
set_option maxHeartbeats 4000000 in
theorem asked_draw (B : Nat) (R : Rdr) (p : Nat) (q s fr b : Int) (a : Option Addr) (b0 o cap : Nat) (l : List Stp) (w : World) (h : RdAt w B R p) (hp : p ≤ 999900000) (hl : l.length ≤ 41) (hs : StepsAt w a b0 o l) :
    Calls Try.prog 29 #[.pointer (some ⟨B, 0, none⟩), .agg #[.int .i64 q, .int .i64 s, .slice a l.length cap, .int .i64 fr, .int .i64 b]] w (AskedPost w B R p) := by
  obtain ⟨i0, hinf, hz0, hz1, hz2⟩ := info_parts int_info
  have hB := lt_of_block h.blk
  have hE := owns_empty (w := w.alloc (.cells #[.int .i64 q, .int .i64 s, .slice a l.length cap, .int .i64 fr, .int .i64 b] 27)) (base := w.heap.size + 1) (e := 3) (size := 1) (by simp)
  simp only [World.size_alloc] at hE
  have R0 := ((RdW.refl h).alloc (.cells #[.int .i64 q, .int .i64 s, .slice a l.length cap, .int .i64 fr, .int .i64 b] 27)).alloc (.cells #[] 3)
  go_enter Try.func29, Try.ntmps29
  go_wp2_with fail
  refine (flySpansS_any q s fr b a b0 o cap l _ (by omega) ((hs.alloc _).alloc _)).mono ?_
  rintro e w1 ⟨v1, rfl, ho1, hb1⟩
  have R1 := R0.below hb1
  have hE1 := owns_below hE hb1
  have hfl := flyL_le q s fr b l
  generalize flyB q s fr b l = ok
  generalize flyL q s fr b l = sp at *
  clear R0 hE hb1
  have hsl : ∃ va vc, v1 = .slice va sp.length vc := by
    rcases ho1.2 with ⟨rfl, h0⟩ | ⟨g, c, cur, rfl, _⟩
    · exact ⟨none, 0, by rw [h0]⟩
    · exact ⟨_, c, rfl⟩
  obtain ⟨va, vc, rfl⟩ := hsl
  go_wp2
  go_loopw [5, 8] (fun s5 s8 wr => ∃ (v : Value) (zs : List Int) (p' : Nat), s5 = v ∧ s8 = .int .i64 (zs.length : Int) ∧ zs.length ≤ sp.length ∧ p' ≤ p + zs.length ∧ RdW w wr B R p' ∧ wr.ownsRow (w.heap.size + 1) 3 1 v zs.length (intCells zs) ∧ wr.ownsRow (w.heap.size + 1) 38 2 (.slice va sp.length vc) sp.length (spanCells sp)) (fun _ s8 _ => sp.length - (intOf s8).toNat)
  case atStart => exact ⟨_, [], p, rfl, rfl, by simp, by simp, R1, hE1, ⟨ho1.1, ho1.2.imp id fun ⟨g, cap, cur, h1, h2, h3⟩ => ⟨g, cap, cur, h1, by simp at h2; omega, h3⟩⟩⟩
  case round =>
    obtain ⟨v, zs, p', rfl, rfl, hzl, hp', R2, ho2, hos⟩ := hrel
    clear R1 hE1 ho1
    have hk0 : (0 : Int) ≤ (zs.length : Int) := by omega
    cases ok with
    | false =>
      go_wp2
      refine bodyPost_ret (v := u5) (by simp [results, Try.results29, go_sem]) rfl ⟨u5, zs, p', rfl, by omega, ⟨ho2.1, ho2.2.imp id fun ⟨g, cap, cur, h1, h2, h3⟩ => ⟨g, cap, cur, h1, by omega, h3⟩⟩, by omega, R2⟩
    | true =>
      by_cases hlt : zs.length < sp.length
      · have k1 : (zs.length : Int) < (sp.length : Int) := by omega
        obtain ⟨⟨lo, hi⟩, hsp⟩ : ∃ x, sp[zs.length]? = some x := ⟨_, List.getElem?_eq_getElem hlt⟩
        obtain ⟨y0, y1⟩ := spanCells_get sp zs.length _ hsp
        obtain ⟨g, gc, hgv, hg1, hg2⟩ := owns_some hos (by omega)
        obtain ⟨hva, hvc⟩ : va = some ⟨g, 0, none⟩ ∧ vc = gc := by cases hgv; exact ⟨rfl, rfl⟩
        subst hva hvc
        have x0 := (hos.cellAt (zs.length * 2) (by omega)).trans y0
        have x1 := (hos.cellAt (zs.length * 2 + 1) (by omega)).trans y1
        have hgB : g ≠ B := by have := R2.lt; omega
        clear hgv y0 y1 hsp
        go_wp2
        obtain ⟨nn, hnn⟩ : ∃ nn, wrap64 (wrap64 (1 + hi) - lo) = nn := ⟨_, rfl⟩
        have qn := ClsR.any wr B
        have q0 : ∀ u : ClsR wr B, u.it.cell? ⟨g, zs.length * 2, none⟩ = some (.int .i64 lo) := fun u => (ClsR.cell hg2 hgB u _).trans x0
        have q1 : ∀ u : ClsR wr B, u.it.cell? ⟨g, zs.length * 2 + 1, none⟩ = some (.int .i64 hi) := fun u => (ClsR.cell hg2 hgB u _).trans x1
        refine region_mixes 19 21 22 #[.int .i64 (wrap64 (lo + pickV R p' nn))] 3 _ _ R2.rd (by kernel_rfl) (by kernel_rfl) (by decide) (by decide) (by decide) rfl rfl rfl rfl (by kernel_rfl) ?_
        refine mx_quiet 19 rfl (by omega) (by omega) ?_
        simp only [List.take_succ_cons, List.take_zero]
        repeat (go_big_quiet_step (fail))
        refine wpQuiet_nil ?_
        simp only [List.drop_succ_cons, List.drop_zero]
        refine mx_pick (by omega) (by decide) rfl nn (fun W' => by go_simp) ?_
        simp only [Act.put, List.setIfInBounds_toArray, List.set_cons_succ, List.set_cons_zero]
        refine mx_quiet 1 rfl (by omega) (by omega) ?_
        simp only [List.take_succ_cons, List.take_zero]
        repeat (go_big_quiet_step (fail))
        refine wpQuiet_nil ?_
        simp only [List.drop_succ_cons, List.drop_zero]
        refine mx_build (by decide) rfl 1 (fun W' => by go_simp) ?_
        simp only [Act.put, List.setIfInBounds_toArray, List.set_cons_succ, List.set_cons_zero]
        refine wpMoves_nil ?_
        intro w4 g4 s4 r4 b4
        have R4 := R2.more r4 g4
        have ho4 := owns_grown ho2 g4 (fun k e => by cases e; omega)
        have hos4 := owns_grown hos g4 (fun k e => by cases e; omega)
        clear q0 q1 qn x0 x1 hos ho2 r4 g4
        generalize wrap64 (lo + pickV R p' nn) = z at *
        refine any_end2 (N := 22) _ 1 rfl (by kernel_rfl) rfl rfl ?_
        have hnew : ∀ (j : Nat) (u : Value), [Value.int .i64 z][j]? = some u → w4.cell? ((⟨wr.heap.size, 0, none⟩ : Addr).add j) = some u := by
          intro j u hj
          rcases j with _ | j
          · simp at hj
            subst hj
            rw [show ((⟨wr.heap.size, 0, none⟩ : Addr).add 0) = ⟨wr.heap.size, 0, none⟩ from rfl, cell_of_row w4 _ 0 _ _ _ b4]
            rfl
          · simp at hj
        have hsz := R2.size
        refine wp_append_own w4 (.tmp 24) (.tmp 45) 28 rfl (w.heap.size + 1) 3 i0 (.int .i64 0) 1 8 Try.underlying28 hinf hz0 hz1 hz2 rfl (by decide) u5 zs.length (intCells zs) rfl ho4 ⟨wr.heap.size, 0, none⟩ 1 1 [.int .i64 z] rfl rfl hnew (by simp [Value.oneCell']) (by unfold maxLen; omega) (by omega) (by omega) ?_
        intro v6 w6 ho6 hg6 _
        have hv5 := owns_base ho4
        have R6 := R4.grown hg6 (fun k e => by have := hv5 k e; omega)
        have hos6 := owns_other hos4 hg6 (fun k e => fun e' => row_ne2 hos4 ho4 (by decide) k e e')
        rw [← intCells_snoc] at ho6
        refine any_end1 (N := 23) _ rfl (by kernel_rfl) (by kernel_rfl) rfl rfl ?_
        simp only [Act.put, List.setIfInBounds_toArray]
        unfold Oper.wp
        go_simp
        go_wp2
        go_roundw
        case rel => exact ⟨v6, zs ++ [z], p' + 1, rfl, by simp, by simp; omega, by simp; omega, R6, by simpa using ho6, hos6⟩
        case measure => simp [intOf]; omega
      · have k1 : ¬ (zs.length : Int) < (sp.length : Int) := by omega
        go_wp2
        refine bodyPost_ret (v := u5) (by simp [results, Try.results29, go_sem]) rfl ⟨u5, zs, p', rfl, by omega, ⟨ho2.1, ho2.2.imp id fun ⟨g, cap, cur, h1, h2, h3⟩ => ⟨g, cap, cur, h1, by omega, h3⟩⟩, by omega, R2⟩
end Go.Proofs.Ytfjlbgegjjdflaa
