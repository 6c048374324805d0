/- The law's own copy of a row of those who hold something, by its contract: new memory, the same data. -/
import Derived.Test.YtfmdejilhbankaaGreatLkBookC
namespace Go.Proofs.YtfmdejilhbankaaGreat
open Go.RowKit

theorem held_info : (Tryz.prog.info? 52).map (fun i => (i.zero, i.size, i.bytes)) = some (some (.agg #[.string ⟨#[]⟩, .int .i64 0, .int .i64 0, .int .i64 0, .slice none 0 0, .int .i64 0, .int .i64 0, .int .i64 0, .int .i64 0, .int .i64 0, .slice none 0 0, .int .i64 0, .int .i64 0]), 13, 144) := by kernel_rfl
theorem held_size : (Tryz.prog.info? 52).map (·.size) = some 13 := by kernel_rfl
theorem held_one (t : Hd) : ((#[.string t.nm, .int .i64 t.n, .int .i64 t.p.q, .int .i64 t.p.s, .slice t.p.a t.p.l.length t.p.cap, .int .i64 t.p.fr, .int .i64 t.p.b, .int .i64 t.sn, .int .i64 t.x.q, .int .i64 t.x.s, .slice t.x.a t.x.l.length t.x.cap, .int .i64 t.x.fr, .int .i64 t.x.b] : Array Value).all (·.oneCell')) = true := by simp [Value.oneCell']
/-- Somebody who holds something, stored whole. -/
theorem store_held {ops : Array Oper} {rest : List Oper} {op : Oper} {a : Act} {w : World} {Q : Exit → Act → World → Prop} (hgd : op.guard = none) (x y : Operand) (ho : op.op = .store 52 x y)
    (b o : Nat) (t : Hd) (hx : a.eval x = .pointer (some ⟨b, o, none⟩)) (hy : a.eval y = t.val) (ht : w.there b o 13) (h : wpList Tryz.prog ops Q rest (a.put op.dst undef) (w.setCells b o t.cl)) : wpList Tryz.prog ops Q (op :: rest) a w :=
  wpList_store_mid hgd 52 x y ho b o _ hx hy ht held_size (held_one t) h

theorem heap_setCells_otherB (b : Nat) : ∀ (vs : List Value) (o : Nat) (w : World) (B : Nat), B ≠ b → (w.setCells b o vs).heap[B]? = w.heap[B]?
  | [], _, _, _, _ => rfl
  | v :: vs, o, w, B, hB => by
    show ((w.setCell ⟨b, o, none⟩ v).setCells b (o + 1) vs).heap[B]? = _
    rw [heap_setCells_otherB b vs (o + 1) _ B hB]
    exact heap_setCell_other w ⟨b, o, none⟩ B v hB

/-- Copies of those who hold something: where their lists lie. -/
structure HdPut (w : World) (lo : Nat) (t u : Hd) : Prop where
  it : ∃ g h, u = t.put g h ∧ lo < g ∧ lo < h ∧ g < w.heap.size ∧ h < w.heap.size ∧ (∀ i, i < t.p.l.length → w.there g (i * 7) 7) ∧ ∀ i, i < t.x.l.length → w.there h (i * 7) 7
  at_ : HdAt w u
theorem HdPut.blocks {w w' : World} {lo : Nat} {t u : Hd} (h : HdPut w lo t u) (hs : w.heap.size ≤ w'.heap.size) (hb : ∀ k, lo < k → k < w.heap.size → w'.heap[k]? = w.heap[k]?) : HdPut w' lo t u := by
  obtain ⟨g, k, rfl, h1, h2, h3, h4, h5, h6⟩ := h.it
  refine ⟨⟨g, k, rfl, h1, h2, by omega, by omega, fun i hi => ?_, fun i hi => ?_⟩, ⟨?_, ?_⟩⟩
  · exact fun j hj => ⟨by rw [World.cell?_of_block (a := ⟨g, i * 7 + j, none⟩) (hb g h1 h3)]; exact (h5 i hi j hj).1, by rw [World.frozen?_of_block (a := ⟨g, i * 7 + j, none⟩) (hb g h1 h3)]; exact (h5 i hi j hj).2⟩
  · exact fun j hj => ⟨by rw [World.cell?_of_block (a := ⟨k, i * 7 + j, none⟩) (hb k h2 h4)]; exact (h6 i hi j hj).1, by rw [World.frozen?_of_block (a := ⟨k, i * 7 + j, none⟩) (hb k h2 h4)]; exact (h6 i hi j hj).2⟩
  · exact ⟨h.at_.p.here, fun hn => Nat.lt_of_lt_of_le (h.at_.p.lt hn) hs, fun i s hi j v hv => by rw [World.cell?_of_block (w := w) (a := ⟨g, 0 + i * 7 + j, none⟩) (hb g h1 h3)]; exact h.at_.p.cell i s hi j v hv⟩
  · exact ⟨h.at_.x.here, fun hn => Nat.lt_of_lt_of_le (h.at_.x.lt hn) hs, fun i s hi j v hv => by rw [World.cell?_of_block (w := w) (a := ⟨k, 0 + i * 7 + j, none⟩) (hb k h2 h4)]; exact h.at_.x.cell i s hi j v hv⟩

/-- A row of copies. -/
structure HdsPut (w : World) (g : Nat) (ts us : List Hd) : Prop where
  lt : g < w.heap.size
  len : us.length = ts.length
  there : ∀ i, i < ts.length → w.there g (i * 13) 13
  at_ : ∀ (i : Nat) (t : Hd), ts[i]? = some t → ∃ u, us[i]? = some u ∧ HdPut w g t u ∧ w.rangeAt g (i * 13) u.cl
theorem HdsPut.copied {w : World} {g : Nat} {ts us : List Hd} (h : HdsPut w g ts us) : CopiedH ts us := ⟨h.len, fun i t hi => by
  obtain ⟨u, h1, h2, _⟩ := h.at_ i t hi
  obtain ⟨a, b, rfl, _⟩ := h2.it
  exact ⟨a, b, h1⟩⟩
theorem HdsPut.rows {w : World} {g : Nat} {ts us : List Hd} (h : HdsPut w g ts us) : HdsAt w (some ⟨g, 0, none⟩) g 0 us := by
  have back : ∀ (i : Nat) (u : Hd), us[i]? = some u → ∃ t, HdPut w g t u ∧ w.rangeAt g (i * 13) u.cl := fun i u hu => by
    have hil : i < ts.length := by have := (List.getElem?_eq_some_iff.1 hu).1; have := h.len; omega
    obtain ⟨u', q1, q2, q3⟩ := h.at_ i ts[i] (List.getElem?_eq_getElem hil)
    rw [hu] at q1
    cases q1
    exact ⟨_, q2, q3⟩
  refine ⟨fun _ => rfl, fun _ => h.lt, fun i u hu => ?_, fun u hu => ?_⟩
  · obtain ⟨_, _, q3⟩ := back i u hu
    simpa using q3
  · obtain ⟨i, hi⟩ := List.mem_iff_getElem?.1 hu
    obtain ⟨_, q2, _⟩ := back i u hi
    exact q2.at_
theorem HdsPut.below {w w' : World} {g : Nat} {ts us : List Hd} (h : HdsPut w g ts us) (hb : Below w.heap.size w w') : HdsPut w' g ts us where
  lt := Nat.lt_of_lt_of_le h.lt hb.size
  len := h.len
  there i hi := there_below (h.there i hi) hb h.lt
  at_ i t hi := by
    obtain ⟨u, q1, q2, q3⟩ := h.at_ i t hi
    exact ⟨u, q1, q2.blocks hb.size (fun k _ hk => hb.block k hk), range_below q3 hb h.lt⟩

theorem HdsPut.set {w : World} {g : Nat} {ts us : List Hd} (h : HdsPut w g ts us) {p : Addr} (hp : p.block < g) (v : Value) : HdsPut (w.setCell p v) g ts us := by
  have hs : (w.setCell p v).heap.size = w.heap.size := by simp [World.setCell]
  have hb : ∀ B, p.block < B → (w.setCell p v).heap[B]? = w.heap[B]? := fun B hB => heap_setCell_other w p B v (by omega)
  refine ⟨by rw [hs]; exact h.lt, h.len, fun i hi j hj => ?_, fun i t hi => ?_⟩
  · exact ⟨by rw [World.cell?_of_block (a := ⟨g, i * 13 + j, none⟩) (hb g hp)]; exact (h.there i hi j hj).1, by rw [World.frozen?_of_block (a := ⟨g, i * 13 + j, none⟩) (hb g hp)]; exact (h.there i hi j hj).2⟩
  · obtain ⟨u, q1, q2, q3⟩ := h.at_ i t hi
    exact ⟨u, q1, q2.blocks (by rw [hs]; exact Nat.le_refl _) (fun k hk _ => hb k (by omega)), fun j v' hv => by rw [World.cell?_of_block (a := ⟨g, i * 13 + j, none⟩) (hb g hp)]; exact q3 j v' hv⟩

set_option maxHeartbeats 4000000 in
set_option maxRecDepth 20000 in
theorem toHelds_any (a : Option Addr) (b o cap : Nat) (ts : List Hd) (w : World) (hl : ts.length ≤ 1048576) (hsm : ∀ t ∈ ts, t.p.l.length ≤ 1048576 ∧ t.x.l.length ≤ 1048576) (hs : HdsAt w a b o ts) :
    Calls Tryz.prog 25 #[.slice a ts.length cap] w
      fun e w' => ∃ g us, e = .returned (.slice (some ⟨g, 0, none⟩) ts.length ts.length) ∧ w.heap.size ≤ g ∧ HdsPut w' g ts us ∧ Below w.heap.size w w' := by
  obtain ⟨i0, hi, hz0, hz1, hz2⟩ := info_parts held_info
  go_enter Tryz.func25, Tryz.ntmps25
  go_wp2_with (first | (at_make; refine wpList_make_full _ rfl _ _ 27 rfl w.heap.size 52 i0 _ 13 Tryz.underlying27 hi hz0 hz1 .i64 .i64 _ _ ts.length rfl rfl rfl rfl (by rw [hz2]; omega) (by unfold maxLen; omega) (Nat.le_refl _) ?_; intro w1 hown1 hgrow1))
  obtain ⟨hlen1, hrow1⟩ := hown1
  have hb1 : Below w.heap.size w w1 := (Below.refl _ _).grown hgrow1 (Nat.le_refl _) (fun k e => by cases e)
  obtain ⟨cur, hcur, hsz⟩ : ∃ cur, w1.heap[w.heap.size]? = some (.cells cur 52 (0, 0)) ∧ cur.size = ts.length * 13 := by
    rcases hrow1 with ⟨h, _⟩ | ⟨g, cap, cur, h, _, hh, _, _, hs, _⟩
    · cases h
    · simp at h
      obtain ⟨rfl, rfl⟩ := h
      exact ⟨cur, hh, hs⟩
  clear hlen1 hrow1 hgrow1
  have hth : ∀ i, i < ts.length → w1.there w.heap.size (i * 13) 13 := fun i hi => there_of_block hcur _ _ (by omega)
  have hgr1 : w.heap.size < w1.heap.size := lt_of_block hcur
  go_loopw [4] (fun v wr => ∃ (k : Nat) (us : List Hd), k ≤ ts.length ∧ v = .int .i64 k ∧ Below w.heap.size w wr ∧ w.heap.size < wr.heap.size ∧ (∀ i, i < ts.length → wr.there w.heap.size (i * 13) 13) ∧ us.length = k ∧ (∀ (i : Nat) (t : Hd), i < k → ts[i]? = some t → ∃ u, us[i]? = some u ∧ HdPut wr w.heap.size t u ∧ wr.rangeAt w.heap.size (i * 13) u.cl))
    (fun v _ => ts.length - (intOf v).toNat)
  case atStart => exact ⟨0, [], Nat.zero_le _, rfl, hb1, hgr1, hth, rfl, fun i s h => absurd h (by omega)⟩
  case round =>
    obtain ⟨k, us, hk, rfl, hb, hgr, hthr, hul, hdone⟩ := hrel
    by_cases hlt : k < ts.length
    · obtain ⟨t, htk⟩ : ∃ t, ts[k]? = some t := ⟨ts[k], List.getElem?_eq_getElem hlt⟩
      have hne : ts ≠ [] := by intro e; subst e; simp at hlt
      obtain rfl := hs.here hne
      obtain ⟨c0, c1, c2, c3, c4, c5, c6, c7, c8, c9, c10, c11, c12⟩ := cl_cells ((hs.below hb).cell k t htk)
      have k0 : (0 : Int) ≤ (k : Int) := by omega
      have k1 : (k : Int) < (ts.length : Int) := by omega
      have hm := List.mem_of_getElem? htk
      have HK : Hid (ts[k]? = some t) := htk
      clear htk
      go_wp2_with fail
      refine (toHeld_more t _ (hsm t hm).1 (hsm t hm).2 ((hs.each t hm).below hb)).mono ?_
      rintro e w2 ⟨g2, h2, rfl, hg2, hgh2, hh2, hs2, hb2, hta2, htb2⟩
      have hth2 : w2.there w.heap.size (k * 13) 13 := there_below (hthr k hlt) hb2 hgr
      have HT : Hid (w2.there w.heap.size (k * 13) 13) := hth2
      clear c0 c1 c2 c3 c4 c5 c6 c7 c8 c9 c10 c11 c12
      go_wp2_with (refine store_held rfl (.tmp 21) (.tmp 20) rfl w.heap.size (k * 13) (t.put g2 h2) rfl rfl hth2 ?_; clear hth2)
      go_roundw
      case rel =>
        have hob : ∀ B, B ≠ w.heap.size → (w2.setCells w.heap.size (k * 13) (t.put g2 h2).cl).heap[B]? = w2.heap[B]? := fun B hB => heap_setCells_otherB w.heap.size _ _ w2 B hB
        have hsz2 : (w2.setCells w.heap.size (k * 13) (t.put g2 h2).cl).heap.size = w2.heap.size := size_setCells _ _ _ _
        refine ⟨k + 1, us ++ [t.put g2 h2], by omega, by go_num, below_setCells (Nat.le_refl _) _ _ _ _ (hb.trans (hb2.mono (by have := hb.size; omega))), ?_, ?_, by simp; omega, ?_⟩
        · rw [hsz2]; have := hb2.size; omega
        · intro i hi
          exact World.there_setCells (there_below (hthr i hi) hb2 hgr) _ _ _
        · intro i s hi hs'
          by_cases hik : i = k
          · subst hik
            obtain rfl : t = s := by rw [HK.out] at hs'; simpa using hs'
            have P2 : HdPut w2 w.heap.size t (t.put g2 h2) := ⟨⟨g2, h2, rfl, by omega, by omega, by omega, hh2, hta2, htb2⟩, hs2⟩
            exact ⟨_, by rw [List.getElem?_append_right (by omega), hul]; simp, P2.blocks (by rw [hsz2]; exact Nat.le_refl _) (fun B hB _ => hob B (by omega)), World.rangeAt_setCells_same _ _ _ _ HT.out⟩
          · obtain ⟨u, q1, q2, q3⟩ := hdone i s (by omega) hs'
            exact ⟨u, by rw [List.getElem?_append_left (by omega)]; exact q1, (q2.blocks hb2.size (fun B _ hB => hb2.block B hB)).blocks (by rw [hsz2]; exact Nat.le_refl _) (fun B hB _ => hob B (by omega)), World.rangeAt_setCells_apart (range_below q3 hb2 hgr) _ _ _ (by right; left; simp; omega)⟩
      case measure => simp [intOf]; omega
    · have hkl : k = ts.length := by omega
      subst hkl
      go_wp2
      go_ret
      exact ⟨w.heap.size, us, rfl, Nat.le_refl _, ⟨hgr, hul, hthr, fun i t hi => hdone i t (List.getElem?_eq_some_iff.1 hi).1 hi⟩, hb⟩
end Go.Proofs.YtfmdejilhbankaaGreat
