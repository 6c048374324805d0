/- The program's closure that remembers what has begun, by its contract. -/
import Derived.Test.YtndfacmfjilbkaaJ06
namespace Go.Proofs.Ytndfacmfjilbkaa
open Go.RowKit

section
variable {g o : Nat} {w w1 w2 : World}
theorem Kept2.refl (g o : Nat) (w : World) : Kept2 g o w w := ⟨rfl, rfl, rfl, Nat.le_refl _, fun _ _ _ _ => rfl⟩
theorem Kept2.trans (h : Kept2 g o w w1) (k : Kept2 g o w1 w2) : Kept2 g o w w2 := ⟨k.os.trans h.os, k.tape.trans h.tape, k.output.trans h.output, Nat.le_trans h.size k.size, fun i hi h1 h2 => (k.block i (Nat.lt_of_lt_of_le hi h.size) h1 h2).trans (h.block i hi h1 h2)⟩
theorem Kept2.of_grown (h : w.grownBy w1 (some g)) : Kept2 g o w w1 := ⟨h.os, h.tape, h.output, h.size, fun i hi h1 _ => h.block i hi (fun e => h1 (by cases e; rfl))⟩
theorem Kept2.of_below (h : Below w.heap.size w w1) : Kept2 g o w w1 := ⟨h.os, h.tape, h.output, h.size, fun i hi _ _ => h.block i hi⟩
theorem Kept2.set (h : Kept2 g o w w1) (j : Nat) (v : Value) : Kept2 g o w (w1.setCell ⟨o, j, none⟩ v) := h.trans ⟨rfl, rfl, rfl, by simp [World.setCell], fun i _ _ h2 => heap_setCell_other w1 ⟨o, j, none⟩ i v h2⟩
theorem Kept2.newset (h : Kept2 g o w w1) {p : Addr} (hp : w.heap.size ≤ p.block) (v : Value) : Kept2 g o w (w1.setCell p v) :=
  ⟨h.os, h.tape, h.output, by simpa [World.setCell] using h.size, fun i hi h1 h2 => (heap_setCell_other w1 p i v (by omega)).trans (h.block i hi h1 h2)⟩
theorem Kept2.below (h : Kept2 g o w w1) {B : Nat} (hB : B ≤ w.heap.size) (h1 : B ≤ g) (h2 : B ≤ o) : Below B w w1 := ⟨h.os, h.tape, h.output, h.size, fun i hi => h.block i (by omega) (by omega) (by omega)⟩
theorem Kept2.path {B : Nat} {q s fr b : Int} {v : Value} (h : Kept2 g o w w1) (hx : PathAt w B q s fr b v) (h1 : B ≠ g) (h2 : B ≠ o) : PathAt w1 B q s fr b v := ⟨(h.block B hx.lt h1 h2).trans hx.it⟩
theorem Kept2.cell (h : Kept2 g o w w1) {p : Addr} (hp : p.block < w.heap.size) (h1 : p.block ≠ g) (h2 : p.block ≠ o) : w1.cell? p = w.cell? p := World.cell?_of_block (h.block p.block hp h1 h2)
theorem Kept2.steps {a : Option Addr} {b0 off : Nat} {l : List Stp} (h : Kept2 g o w w1) (hs : StepsAt w a b0 off l) (hb : l ≠ [] → b0 ≠ g ∧ b0 ≠ o) : StepsAt w1 a b0 off l where
  here := hs.here
  lt hl := Nat.lt_of_lt_of_le (hs.lt hl) h.size
  cell i s hi j v hv := by
    have hne : l ≠ [] := by intro e; subst e; simp at hi
    rw [h.cell (p := ⟨b0, off + i * 7 + j, none⟩) (hs.lt hne) (hb hne).1 (hb hne).2]
    exact hs.cell i s hi j v hv
theorem Kept2.ints {a : Option Addr} {b0 off : Nat} {zs : List Int} (h : Kept2 g o w w1) (hs : IntsAt w a b0 off zs) (hb : zs ≠ [] → b0 ≠ g ∧ b0 ≠ o) : IntsAt w1 a b0 off zs where
  here := hs.here
  lt hl := Nat.lt_of_lt_of_le (hs.lt hl) h.size
  cell i z hi := by
    have hne : zs ≠ [] := by intro e; subst e; simp at hi
    rw [h.cell (p := ⟨b0, off + i, none⟩) (hs.lt hne) (hb hne).1 (hb hne).2]
    exact hs.cell i z hi
end
theorem OpenV.set {w : World} {q s fr b : Int} {l : List Stp} {base g scap : Nat} {cs : List Int} {v : Value} (h : OpenV w q s fr b l base g scap cs v) {p : Addr} (hp : goB q s fr b l cs = true → g ≠ p.block) (u : Value) : OpenV (w.setCell p u) q s fr b l base g scap cs v := h.keep (fun hg _ => heap_setCell_other w p g u (hp hg))
theorem OpenV.slice {w : World} {q s fr b : Int} {l : List Stp} {base g scap : Nat} {cs : List Int} {v : Value} (h : OpenV w q s fr b l base g scap cs v) : ∃ a n cp, v = .slice a n cp := by
  unfold OpenV at h
  split at h
  · obtain ⟨⟨cp, _, rfl⟩, _⟩ := h
    exact ⟨_, _, _, rfl⟩
  · obtain ⟨a, cp, rfl⟩ := h
    exact ⟨_, _, _, rfl⟩
theorem take_snoc {zs : List Int} {i : Nat} {z : Int} (h : zs[i]? = some z) : zs.take (i + 1) = zs.take i ++ [z] := by
  rw [List.take_add_one, h]; rfl

set_option maxRecDepth 20000 in
set_option maxHeartbeats 4000000 in
theorem clo_any (q s fr b : Int) (a : Option Addr) (b0 off cap : Nat) (l : List Stp) (c : Option Addr) (cb co ccap : Nat) (zs : List Int) (base g scap Bp Bo : Nat) (cs : List Int) (v0 : Value) (w : World)
    (hl : l.length ≤ 1048576) (hzl : zs.length ≤ 1048576) (hs : StepsAt w a b0 off l) (hz : IntsAt w c cb co zs) (hP : PathAt w Bp q s fr b (.slice a l.length cap)) (hO : Boxed w Bo 31 v0) (hv : OpenV w q s fr b l base g scap cs v0)
    (d1 : Bp ≠ g) (d2 : Bp ≠ Bo) (d3 : goB q s fr b l cs = true → g ≠ Bo) (d4 : l ≠ [] → b0 ≠ g ∧ b0 ≠ Bo) (d5 : zs ≠ [] → cb ≠ g ∧ cb ≠ Bo) (d6 : g < w.heap.size) :
    Calls Try.prog 71 #[.slice c zs.length ccap, .pointer (some ⟨Bp, 0, none⟩), .pointer (some ⟨Bo, 0, none⟩)] w
      fun e w' => e = .returned (.tuple #[.agg #[.int .i64 (goS q s fr b l (cs ++ zs)).1, .int .i64 (goS q s fr b l (cs ++ zs)).2], .bool (goB q s fr b l (cs ++ zs))]) ∧ Kept2 g Bo w w' ∧
        ∃ v, Boxed w' Bo 31 v ∧ OpenV w' q s fr b l base g scap (cs ++ zs) v := by
  have hOl := hO.lt
  have hPl := hP.lt
  go_enter Try.func71, Try.ntmps71
  have hr0 := Span2.new w 38
  have hal : Below w.heap.size w (w.alloc (.cells #[.int .i64 0, .int .i64 0] 38)) := (Below.refl w.heap.size w).alloc (Nat.le_refl _) _
  go_wp2_with fail
  go_loopw [10] (fun u wr => ∃ i : Nat, i ≤ zs.length ∧ u = .int .i64 i ∧ wr.heap[w.heap.size]? = some (.cells #[.int .i64 0, .int .i64 0] 38 (0, 0)) ∧ Kept2 g Bo w wr ∧ ∃ v, Boxed wr Bo 31 v ∧ OpenV wr q s fr b l base g scap (cs ++ zs.take i) v) (fun u _ => zs.length - (intOf u).toNat)
  case atStart => exact ⟨0, Nat.zero_le _, rfl, hr0, Kept2.of_below hal, v0, hO.alloc _, by rw [List.take_zero, List.append_nil]; exact hv.keep (fun _ h => hal.block g h)⟩
  case round =>
    obtain ⟨i, hi, rfl, hr, hK, v, hB, hV⟩ := hrel
    clear hr0 hal hv hO
    by_cases hlt : i < zs.length
    · obtain ⟨z, hzi⟩ : ∃ z, zs[i]? = some z := ⟨zs[i], List.getElem?_eq_getElem hlt⟩
      have hne : zs ≠ [] := by intro e; subst e; simp at hlt
      obtain rfl := hz.here hne
      have zc := (hK.ints hz d5).cell i z hzi
      have hs1 := hK.steps hs d4
      have hP1 := hK.path hP d1 d2
      obtain ⟨⟨p0, p1, p2, p3, p4⟩, pf⟩ := hP1.cells
      have bc := hB.cell
      have m0 : (0 : Int) ≤ (i : Int) := by omega
      have m1 : (i : Int) < (zs.length : Int) := by omega
      go_wp2_with fail
      refine (behind_st q s fr b a b0 off cap l base g scap _ v z wr hl hs1 (fun h => (d4 h).1) hV).mono ?_
      rintro e w2 ⟨v', rfl, ⟨hg2, hg2'⟩, hV2⟩
      obtain ⟨va, vn, vc, rfl⟩ := hV2.slice
      have hB2 : Boxed w2 Bo 31 v := by
        cases hgo : goB q s fr b l (cs ++ zs.take i) with
        | false => exact boxed_below hB (hg2' hgo)
        | true => exact hB.kept hg2 (fun e => d3 (goB_mono _ hgo) (by cases e; rfl))
      have bc2 := hB2.cell
      have bf2 := hB2.frozen
      have hK2 := hK.trans (Kept2.of_grown (o := Bo) hg2)
      have hr2 : w2.heap[w.heap.size]? = some (.cells #[.int .i64 0, .int .i64 0] 38 (0, 0)) := (hg2.block _ (lt_of_block hr) (fun e => by cases e; omega)).trans hr
      have HV : Hid (OpenV (w2.setCell ⟨Bo, 0, none⟩ (.slice va vn vc)) q s fr b l base g scap (cs ++ zs.take (i + 1)) (.slice va vn vc)) := by
        show OpenV _ _ _ _ _ _ _ _ _ _ _
        rw [take_snoc hzi, ← List.append_assoc]
        exact hV2.set (fun h => d3 (goB_mono (zs.take i ++ [z]) (by rw [← List.append_assoc]; exact h))) _
      have HB2 : Hid (Boxed w2 Bo 31 v) := hB2
      have HK2 : Hid (Kept2 g Bo w w2) := hK2
      have HR2 : Hid (w2.heap[w.heap.size]? = some (.cells #[.int .i64 0, .int .i64 0] 38 (0, 0))) := hr2
      clear hV2 hB hV hK hr hP1 hs1 p0 p1 p2 p3 p4 pf bc zc hB2 hK2 hr2 hg2 hg2'
      go_wp2
      go_roundw
      case rel => exact ⟨i + 1, by omega, by go_num, (heap_setCell_other w2 ⟨Bo, 0, none⟩ w.heap.size _ (by show w.heap.size ≠ Bo; omega)).trans HR2.out, HK2.out.set _ _, _, HB2.out.set _, HV.out⟩
      case measure => simp [intOf]; omega
    · obtain rfl : i = zs.length := by omega
      rw [List.take_length] at hV
      have bc := hB.cell
      obtain ⟨r0, r1, rf⟩ := blk2 hr
      cases hg : goB q s fr b l (cs ++ zs) with
      | false =>
        have hV' := hV
        unfold OpenV at hV'
        rw [if_neg (by rw [hg]; simp)] at hV'
        obtain ⟨a', cp, rfl⟩ := hV'
        have E : Hid (goS q s fr b l (cs ++ zs) = (0, 0)) := goS_no hg
        have HV : Hid (OpenV wr q s fr b l base g scap (cs ++ zs) (.slice a' 0 cp)) := hV
        clear hV
        go_wp2
        refine bodyPost_ret (v := .tuple #[.agg #[.int .i64 0, .int .i64 0], .bool false]) (by simp [results, Try.results71, go_sem, *]) rfl ⟨by rw [E.out, hg], (hK.newset (Nat.le_refl _) _).newset (Nat.le_refl _) _, .slice a' 0 cp, ?_, ?_⟩
        · exact (heap_setCell_other _ ⟨w.heap.size, 1, none⟩ Bo _ (by show Bo ≠ w.heap.size; omega)).trans ((heap_setCell_other _ ⟨w.heap.size, 0, none⟩ Bo _ (by show Bo ≠ w.heap.size; omega)).trans hB)
        · exact (HV.out.set (p := ⟨w.heap.size, 0, none⟩) (fun _ => by show g ≠ w.heap.size; omega) _).set (p := ⟨w.heap.size, 1, none⟩) (fun _ => by show g ≠ w.heap.size; omega) _
      | true =>
        have hV' := hV
        unfold OpenV at hV'
        rw [if_pos hg] at hV'
        obtain ⟨⟨cp, hcp, rfl⟩, hown⟩ := hV'
        obtain ⟨_, _, hm, _⟩ := goB_parts hg
        have hget := rowG_get q s fr b l (fun i => (cs ++ zs).getD i 0) (cs ++ zs).length (cs ++ zs).length hm
        rw [if_pos (Nat.le_refl _)] at hget
        have eg : goS q s fr b l (cs ++ zs) = openA q s fr b l l.length (fun i => (cs ++ zs).getD i 0) (cs ++ zs).length := by unfold goS; rw [if_pos hg]
        rw [← eg] at hget
        obtain ⟨⟨y0, y1⟩, hy⟩ : ∃ y, goS q s fr b l (cs ++ zs) = y := ⟨_, rfl⟩
        rw [hy] at hget
        have x0 := (hown.cellAt ((cs ++ zs).length * 2) (by omega)).trans (spanCells_get _ _ _ hget).1
        have x1 := (hown.cellAt ((cs ++ zs).length * 2 + 1) (by omega)).trans (spanCells_get _ _ _ hget).2
        have E : Hid (goS q s fr b l (cs ++ zs) = (y0, y1)) := hy
        have HG : Hid (goB q s fr b l (cs ++ zs) = true) := hg
        have HV : Hid (OpenV wr q s fr b l base g scap (cs ++ zs) (.slice (some ⟨g, (cs ++ zs).length * 2, none⟩) (l.length - (cs ++ zs).length + 1) cp)) := hV
        clear hV hy eg hget hown hg
        generalize (cs ++ zs).length = M at *
        obtain ⟨N, hN⟩ : ∃ N, l.length - M = N := ⟨_, rfl⟩
        rw [hN] at HV hB bc
        have mn : ((N : Int) + 1 == 0) = false := by simp; omega
        have mp : (0 : Int) < (N : Int) + 1 := by omega
        go_wp2
        refine bodyPost_ret (v := .tuple #[.agg #[.int .i64 y0, .int .i64 y1], .bool true]) (by simp [results, Try.results71, go_sem, *]) rfl ⟨by rw [E.out, HG.out], (hK.newset (Nat.le_refl _) _).newset (Nat.le_refl _) _, .slice (some ⟨g, M * 2, none⟩) (N + 1) cp, ?_, ?_⟩
        · exact (heap_setCell_other _ ⟨w.heap.size, 1, none⟩ Bo _ (by show Bo ≠ w.heap.size; omega)).trans ((heap_setCell_other _ ⟨w.heap.size, 0, none⟩ Bo _ (by show Bo ≠ w.heap.size; omega)).trans hB)
        · exact (HV.out.set (p := ⟨w.heap.size, 0, none⟩) (fun _ => by show g ≠ w.heap.size; omega) _).set (p := ⟨w.heap.size, 1, none⟩) (fun _ => by show g ≠ w.heap.size; omega) _
end Go.Proofs.Ytndfacmfjilbkaa
