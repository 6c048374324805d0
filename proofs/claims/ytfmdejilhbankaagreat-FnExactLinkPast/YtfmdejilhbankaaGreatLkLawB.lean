/- What an exact law's walk asks of the copies of arguments and of answers that are books, each from one block number up to another. -/
import Derived.Test.YtfmdejilhbankaaGreatLkBx
import Derived.Test.YtfmdejilhbankaaGreatLkMarkP
namespace Go.Proofs.YtfmdejilhbankaaGreat
open Go.RowKit

/-- All blocks but those from lo up to hi are as they were. -/
abbrev Iv (lo hi : Nat) (W W' : World) : Prop := Spared (List.range' lo (hi - lo)) W W'
theorem Iv.out {lo hi k : Nat} (h : k < lo ∨ hi ≤ k) : k ∉ List.range' lo (hi - lo) := nin_range h
theorem Iv.below {lo hi : Nat} {W W' : World} (h : Below W.heap.size W W') : Iv lo hi W W' := Spared.below h
theorem Iv.toBelow {lo hi B : Nat} {a w w' : World} (h : Iv lo hi w w') (h0 : Below B a w) (hB : B ≤ w.heap.size) (hl : B ≤ lo) : Below B a w' := Spared.toBelow h h0 hB (range_ge hl)
theorem Cbx.iv {lo hi B : Nat} {W W' : World} {vs : Array Value} (h : Cbx W B vs) (hs : Iv lo hi W W') (hn : B < lo ∨ hi ≤ B) : Cbx W' B vs := h.spared hs (Iv.out hn)
theorem Iv.of {S : List Nat} {lo hi : Nat} {W W' : World} (h : Spared S W W') (hS : ∀ k ∈ S, lo ≤ k ∧ k < hi) : Iv lo hi W W' := h.mono (fun k hk => in_range (hS k hk).1 (hS k hk).2)

theorem hdSz_key {t u : Hd} (h : t.key = u.key) : hdSz t = hdSz u := by
  simp only [Hd.key, Pt.key, Prod.mk.injEq] at h
  unfold hdSz ptSz
  rw [h.2.2.1.2.2.2.2, h.2.2.2.2.2.2.2.2]
theorem totH_keys : ∀ {us vs : List Hd}, us.map Hd.key = vs.map Hd.key → totH us = totH vs
  | [], [], _ => rfl
  | [], _ :: _, h => by simp at h
  | _ :: _, [], h => by simp at h
  | u :: us, v :: vs, h => by
    simp only [List.map_cons, List.cons.injEq] at h
    simp only [totH]
    rw [hdSz_key h.1, totH_keys h.2]
theorem len_keys {us vs : List Hd} (h : us.map Hd.key = vs.map Hd.key) : us.length = vs.length := by simpa using congrArg List.length h
theorem small_keys {us vs : List Hd} (h : us.map Hd.key = vs.map Hd.key) (hs : ∀ t ∈ vs, t.p.l.length ≤ 1048576 ∧ t.x.l.length ≤ 1048576) : ∀ t ∈ us, t.p.l.length ≤ 1048576 ∧ t.x.l.length ≤ 1048576 := fun t ht => by
  obtain ⟨i, hi⟩ := List.mem_iff_getElem?.1 ht
  have e : (us.map Hd.key)[i]? = some t.key := by rw [List.getElem?_map, hi]; rfl
  rw [h, List.getElem?_map] at e
  obtain ⟨v, hv, he⟩ := Option.map_eq_some_iff.1 e
  have := hs v (List.mem_of_getElem? hv)
  simp only [Hd.key, Pt.key, Prod.mk.injEq] at he
  rw [← he.2.2.1.2.2.2.2, ← he.2.2.2.2.2.2.2.2]
  exact this

/-! ### The copy of a book -/
structure BkPut (W : World) (g hi : Nat) (ts : List Hd) : Prop where
  it : ∃ us, HdsPut W g ts us ∧ MkPut W g hi us
section
variable {W W' : World} {g hi : Nat} {ts : List Hd}
theorem BkPut.below (h : BkPut W g hi ts) (hb : Below W.heap.size W W') : BkPut W' g hi ts := by
  obtain ⟨us, h1, h2⟩ := h.it
  exact ⟨us, h1.below hb, h2.below hb⟩
theorem BkPut.lt (h : BkPut W g hi ts) : g < hi ∧ hi ≤ W.heap.size := by
  obtain ⟨us, _, h2⟩ := h.it
  exact ⟨h2.lt, h2.le⟩
theorem BkPut.eq {g' hi' : Nat} (la : Int) (h : BkPut W g hi ts) (h' : BkPut W g' hi' ts) (hl : ts.length ≤ 1048576) (hs : ∀ t ∈ ts, t.p.l.length ≤ 1048576 ∧ t.x.l.length ≤ 1048576) :
    Calls Tryz.prog 10 #[.agg #[.int .i64 la, .slice (some ⟨g, 0, none⟩) ts.length ts.length], .agg #[.int .i64 la, .slice (some ⟨g', 0, none⟩) ts.length ts.length]] W fun e w' => e = .returned (.bool true) ∧ Below W.heap.size W w' := by
  obtain ⟨us, h1, _⟩ := h.it
  obtain ⟨vs, h3, _⟩ := h'.it
  have := eqBook_same la (some ⟨g, 0, none⟩) (some ⟨g', 0, none⟩) g 0 ts.length g' 0 ts.length us vs W (by rw [h1.len]; exact hl) (h1.copied.keys.trans h3.copied.keys.symm) (h1.copied.small hs) h1.rows h3.rows
  rw [h1.len] at this
  exact this
theorem BkPut.mark (la k0 : Int) (h : BkPut W g hi ts) (hl : ts.length ≤ 1048576) (hs : ∀ t ∈ ts, t.p.l.length ≤ 1048576 ∧ t.x.l.length ≤ 1048576) (hk : 0 ≤ k0 ∧ k0 + (totH ts : Int) ≤ 900000000) :
    Calls Tryz.prog 18 #[.agg #[.int .i64 la, .slice (some ⟨g, 0, none⟩) ts.length ts.length], .int .i64 k0] W fun e w' => e = .returned (.int .i64 (k0 + (totH ts : Int))) ∧ Iv g hi W w' := by
  obtain ⟨us, h1, h2⟩ := h.it
  have e := totH_keys h1.copied.keys
  have := markBook_put la k0 g hi ts.length us W (by rw [h1.len]; exact hl) (h1.copied.small hs) (by rw [e]; exact hk) h2
  rw [h1.len, e] at this
  exact this
theorem BkPut.iv {lo' hi' : Nat} (h : BkPut W g hi ts) (hs : Iv lo' hi' W W') (hd : hi ≤ lo' ∨ hi' ≤ g) : BkPut W' g hi ts := by
  obtain ⟨us, h1, h2⟩ := h.it
  have hk : ∀ k, g ≤ k → k < hi → W'.heap[k]? = W.heap[k]? := fun k a b => hs.block k (Nat.lt_of_lt_of_le b h2.le) (Iv.out (by omega))
  have hg := hk g (Nat.le_refl _) h2.lt
  have th : ∀ {b o n : Nat}, g ≤ b → b < hi → W.there b o n → W'.there b o n := fun {b o n} a b' ht j hj => ⟨by rw [World.cell?_of_block (a := ⟨b, o + j, none⟩) (hk b a b')]; exact (ht j hj).1, by rw [World.frozen?_of_block (a := ⟨b, o + j, none⟩) (hk b a b')]; exact (ht j hj).2⟩
  refine ⟨us, ⟨Nat.lt_of_lt_of_le h1.lt hs.size, h1.len, fun i hi' => th (Nat.le_refl _) h2.lt (h1.there i hi'), fun i t hi' => ?_⟩, ⟨h2.lt, Nat.le_trans h2.le hs.size, fun i hi' => th (Nat.le_refl _) h2.lt (h2.there i hi'), fun i u hu => ?_, fun u hu => ?_⟩⟩
  · obtain ⟨u, q1, q2, q3⟩ := h1.at_ i t hi'
    have hmem := h2.pt u (List.mem_of_getElem? q1)
    refine ⟨u, q1, ⟨?_, ?_⟩, fun j v hv => by rw [World.cell?_of_block (a := ⟨g, i * 13 + j, none⟩) hg]; exact q3 j v hv⟩
    · obtain ⟨a, b, rfl, r1, r2, r3, r4, r5, r6⟩ := q2.it
      exact ⟨a, b, rfl, r1, r2, Nat.lt_of_lt_of_le r3 hs.size, Nat.lt_of_lt_of_le r4 hs.size, fun i hi' => th (Nat.le_of_lt hmem.1.1) hmem.1.2.1 (r5 i hi'), fun i hi' => th (Nat.le_of_lt hmem.2.1) hmem.2.2.1 (r6 i hi')⟩
    · obtain ⟨a, b, rfl, _⟩ := q2.it
      have k1 := hk a (Nat.le_of_lt hmem.1.1) hmem.1.2.1
      have k2 := hk b (Nat.le_of_lt hmem.2.1) hmem.2.2.1
      exact ⟨⟨q2.at_.p.here, fun hn => Nat.lt_of_lt_of_le (q2.at_.p.lt hn) hs.size, fun i s hi' j v hv => by rw [World.cell?_of_block (w := W) (a := ⟨a, 0 + i * 7 + j, none⟩) k1]; exact q2.at_.p.cell i s hi' j v hv⟩,
        ⟨q2.at_.x.here, fun hn => Nat.lt_of_lt_of_le (q2.at_.x.lt hn) hs.size, fun i s hi' j v hv => by rw [World.cell?_of_block (w := W) (a := ⟨b, 0 + i * 7 + j, none⟩) k2]; exact q2.at_.x.cell i s hi' j v hv⟩⟩
  · exact ⟨(World.cell?_of_block (a := ⟨g, i * 13 + 4, none⟩) hg).trans (h2.sl i u hu).1, (World.cell?_of_block (a := ⟨g, i * 13 + 10, none⟩) hg).trans (h2.sl i u hu).2⟩
  · have hmem := h2.pt u hu
    exact ⟨⟨hmem.1.1, hmem.1.2.1, fun i hi' => th (Nat.le_of_lt hmem.1.1) hmem.1.2.1 (hmem.1.2.2 i hi')⟩, hmem.2.1, hmem.2.2.1, fun i hi' => th (Nat.le_of_lt hmem.2.1) hmem.2.2.1 (hmem.2.2.2 i hi')⟩
end
theorem toBook_put (t : Bk) (w : World) (hl : t.ts.length ≤ 1048576) (hsm : ∀ u ∈ t.ts, u.p.l.length ≤ 1048576 ∧ u.x.l.length ≤ 1048576) (hs : BkAt w t) :
    Calls Tryz.prog 8 #[t.val] w fun e w' => ∃ g, e = .returned (.agg #[.int .i64 t.la, .slice (some ⟨g, 0, none⟩) t.ts.length t.ts.length]) ∧ w.heap.size ≤ g ∧ BkPut w' g w'.heap.size t.ts ∧ Below w.heap.size w w' :=
  (toBook_any t w hl hsm hs).mono fun _ _ ⟨g, us, h1, h2, h3, h4⟩ => ⟨g, h1, h2, ⟨us, h3, MkPut.of h3⟩, h4⟩

/-! ### An answer that is a book -/
abbrev HKey := ByteArray × Int × (Int × Int × Int × Int × List Stp) × Int × (Int × Int × Int × Int × List Stp)
def totK : List HKey → Nat
  | [] => 0
  | k :: ks => 3 + (4 + k.2.2.1.2.2.2.2.length * 7) + (4 + k.2.2.2.2.2.2.2.2.length * 7) + totK ks
theorem totK_of : ∀ us : List Hd, totK (us.map Hd.key) = totH us
  | [] => rfl
  | u :: us => by simp only [List.map_cons, totK, totH, totK_of us]; rfl
def smallK (ks : List HKey) : Prop := ∀ k ∈ ks, k.2.2.1.2.2.2.2.length ≤ 1048576 ∧ k.2.2.2.2.2.2.2.2.length ≤ 1048576
theorem smallK_of {us : List Hd} (h : smallK (us.map Hd.key)) : ∀ u ∈ us, u.p.l.length ≤ 1048576 ∧ u.x.l.length ≤ 1048576 := fun u hu => h u.key (List.mem_map_of_mem hu)
structure BkAns (W : World) (lo hi : Nat) (v : Value) (ks : List HKey) : Prop where
  it : ∃ us, BkOwn W lo v us ∧ us.map Hd.key = ks ∧ ∀ k ∈ bkBlks v us, k < hi
section
variable {W W' : World} {lo hi : Nat} {v : Value} {ks : List HKey}
theorem BkAns.of {us : List Hd} (h : BkOwn W lo v us) : BkAns W lo W.heap.size v (us.map Hd.key) := ⟨us, h, rfl, fun k hk => (h.lt k hk).2⟩
theorem BkAns.below (h : BkAns W lo hi v ks) (hb : Below W.heap.size W W') : BkAns W' lo hi v ks := by
  obtain ⟨us, h1, h2, h3⟩ := h.it
  exact ⟨us, h1.below hb, h2, h3⟩
theorem BkAns.iv {lo' hi' : Nat} (h : BkAns W lo hi v ks) (hs : Iv lo' hi' W W') (hd : hi ≤ lo' ∨ hi' ≤ lo) : BkAns W' lo hi v ks := by
  obtain ⟨us, h1, h2, h3⟩ := h.it
  exact ⟨us, h1.spared hs (fun k hk => Iv.out (by have := h3 k hk; have := (h1.lt k hk).1; omega)), h2, h3⟩
theorem BkAns.slice (h : BkAns W lo hi v ks) : ∃ a c, v = .slice a ks.length c := by
  obtain ⟨us, h1, rfl, _⟩ := h.it
  obtain ⟨a, c, e⟩ := own_slice h1.row
  exact ⟨a, c, by rw [List.length_map]; exact e⟩
theorem BkAns.eq {lo' hi' : Nat} {v' : Value} (la : Int) (h : BkAns W lo hi v ks) (h' : BkAns W lo' hi' v' ks) (hl : ks.length ≤ 1048576) (hs : smallK ks) :
    Calls Tryz.prog 10 #[.agg #[.int .i64 la, v], .agg #[.int .i64 la, v']] W fun e w' => e = .returned (.bool true) ∧ Below W.heap.size W w' := by
  obtain ⟨us, h1, h2, _⟩ := h.it
  obtain ⟨vs, h3, h4, _⟩ := h'.it
  obtain ⟨a, g, cap, rfl, hA⟩ := h1.at_
  obtain ⟨a', g', cap', rfl, hB⟩ := h3.at_
  have hlen : us.length = vs.length := len_keys (h2.trans h4.symm)
  have hul : us.length = ks.length := by rw [← h2, List.length_map]
  have := eqBook_same la a a' g 0 cap g' 0 cap' (us.map Hd.at0) (vs.map Hd.at0) W (by rw [List.length_map, hul]; exact hl) (by rw [at0_keys, at0_keys, h2, h4]) (fun t ht => by
    obtain ⟨u, hu, rfl⟩ := List.mem_map.1 ht
    exact smallK_of (by rw [h2]; exact hs) u hu) hA hB
  rw [List.length_map] at this
  rw [← hlen]
  exact this
/-- Marked. -/
structure BkMk (W : World) (lo hi : Nat) (k0 : Int) (v : Value) (ks : List HKey) : Prop where
  it : ∃ us, BkOwn W lo v (markHds k0 us) ∧ us.map Hd.key = ks ∧ ∀ k ∈ bkBlks v us, k < hi
theorem bkBlks_mark (v : Value) (k0 : Int) (us : List Hd) : bkBlks v (markHds k0 us) = bkBlks v us := by unfold bkBlks; rw [markHds_blks]
theorem BkMk.below {k0 : Int} (h : BkMk W lo hi k0 v ks) (hb : Below W.heap.size W W') : BkMk W' lo hi k0 v ks := by
  obtain ⟨us, h1, h2, h3⟩ := h.it
  exact ⟨us, h1.below hb, h2, h3⟩
theorem BkMk.iv {lo' hi' : Nat} {k0 : Int} (h : BkMk W lo hi k0 v ks) (hs : Iv lo' hi' W W') (hd : hi ≤ lo' ∨ hi' ≤ lo) : BkMk W' lo hi k0 v ks := by
  obtain ⟨us, h1, h2, h3⟩ := h.it
  exact ⟨us, h1.spared hs (fun k hk => Iv.out (by have := (h1.lt k hk).1; rw [bkBlks_mark] at hk; have := h3 k hk; omega)), h2, h3⟩
theorem BkAns.mark (la k0 : Int) (h : BkAns W lo hi v ks) (hl : ks.length ≤ 1048576) (hs : smallK ks) (hk : 0 ≤ k0 ∧ k0 + (totK ks : Int) ≤ 900000000) :
    Calls Tryz.prog 18 #[.agg #[.int .i64 la, v], .int .i64 k0] W fun e w' => e = .returned (.int .i64 (k0 + (totK ks : Int))) ∧ BkMk w' lo hi k0 v ks ∧ Iv lo hi W w' := by
  obtain ⟨us, h1, rfl, h3⟩ := h.it
  rw [totK_of] at hk ⊢
  rw [List.length_map] at hl
  refine (markBook_own la k0 v lo us W hl (smallK_of hs) hk h1).mono ?_
  rintro e w' ⟨h4, h5, h6⟩
  exact ⟨h4, ⟨us, h5, rfl, h3⟩, Iv.of h6 (fun k hk => ⟨(h1.lt k hk).1, h3 k hk⟩)⟩
theorem BkMk.held {k0 : Int} (la : Int) (h : BkMk W lo hi k0 v ks) (hl : ks.length ≤ 1048576) (hs : smallK ks) (hk : 0 ≤ k0 ∧ k0 + (totK ks : Int) ≤ 900000000) :
    Calls Tryz.prog 19 #[.agg #[.int .i64 la, v], .int .i64 k0] W fun e w' => e = .returned (.int .i64 (k0 + (totK ks : Int))) ∧ Below W.heap.size W w' := by
  obtain ⟨us, h1, rfl, h3⟩ := h.it
  rw [totK_of] at hk ⊢
  rw [List.length_map] at hl
  exact heldBook_own la k0 v lo us W hl (smallK_of hs) hk h1
end
/-- What a measure that is left says of the marks. -/
theorem tot_left : ∀ (ts : List Hd) (left : Int), -1 ≤ left → left ≤ 1048576 → 0 ≤ ts.foldl leftH left → (totH ts : Int) ≤ 11 * (ts.length : Int) + 7 * (left - ts.foldl leftH left)
  | [], left, _, _, _ => by simp [totH]
  | t :: ts, left, h0, h1, h => by
    rw [List.foldl_cons] at h
    have hr := leftH_left left t h1
    have ht : 0 ≤ leftH left t := by
      rcases Int.lt_or_le (leftH left t) 0 with hn | hn
      · rw [foldH_neg ts _ (by omega)] at h; omega
      · exact hn
    have ih := tot_left ts (leftH left t) hr.1 hr.2 h
    have hsz : (hdSz t : Int) ≤ 11 + 7 * (left - leftH left t) := by
      unfold leftH leftN leftB at ht ⊢
      unfold hdSz ptSz
      repeat' split at ht
      all_goals (repeat' split)
      all_goals omega
    simp only [totH, List.length_cons, List.foldl_cons]
    push_cast
    omega
theorem tot_book {ts : List Hd} {left : Int} (h0 : -1 ≤ left) (h1 : left ≤ 1048576) (h : ¬ leftHs left ts < 0) : ts.length ≤ 1048576 ∧ (∀ t ∈ ts, t.p.l.length ≤ 1048576 ∧ t.x.l.length ≤ 1048576) ∧ (totH ts : Int) ≤ 20000000 ∧ -1 ≤ leftHs left ts ∧ leftHs left ts ≤ 1048576 := by
  have hx := leftB_left left ts.length h0 h1
  have hr := foldH_range ts (leftB left ts.length) hx.1 hx.2
  unfold leftHs at h ⊢
  have hb : ¬ leftB left ts.length < 0 := by
    intro hn
    rw [foldH_neg ts _ (by omega)] at h
    omega
  have hl : (ts.length : Int) ≤ 1048576 := by
    unfold leftB at hb
    split at hb
    · omega
    · omega
  have := tot_left ts (leftB left ts.length) hx.1 hx.2 (by omega)
  exact ⟨by omega, foldH_small ts _ hx.1 hx.2 (by omega), by omega, hr.1, hr.2⟩
end Go.Proofs.YtfmdejilhbankaaGreat
