/- Joined texts: Draw4, ShRet. -/
import Derived.Deep.RegionHeld3
import Derived.Test.YtcheigbpoopjgaaJ06
namespace Go.Proofs.Ytcheigbpoopjgaa
open Go.RowKit

/-- The bytes zs lie in block b from offset o on. -/
structure BytesAt (w : World) (a : Option Addr) (b o : Nat) (zs : List Int) : Prop where
  here : zs ≠ [] → a = some ⟨b, o, none⟩
  lt : zs ≠ [] → b < w.heap.size
  cell : ∀ (i : Nat) (z : Int), zs[i]? = some z → w.cell? ⟨b, o + i, none⟩ = some (.int .u8 z)
  rng : ∀ (i : Nat) (z : Int), zs[i]? = some z → 0 ≤ z ∧ z < 256

theorem open_any (a : Option Addr) (b o cap : Nat) (zs : List Int) (w : World) (hz : BytesAt w a b o zs) (hl : zs.length ≤ 1048576) (hc : zs.length ≤ cap) :
    Calls Try.prog 23 #[.slice a zs.length cap] w fun e w' => ∃ R, e = .returned (.pointer (some ⟨w.heap.size, 0, none⟩)) ∧ RdAt w' w.heap.size R 0 ∧ Below w.heap.size w w' ∧ w'.heap.size = w.heap.size + 1 := by
  by_cases h : 2000 < zs.length
  · have hne : zs ≠ [] := by intro e; rw [e] at h; simp at h
    obtain rfl := hz.here hne
    have h1 : (2000 : Int) < (zs.length : Int) := by omega
    have h2 : (2000 : Int) ≤ (cap : Int) := by omega
    go_enter Try.func23, Try.ntmps23
    go_wp2
    go_ret
    refine ⟨⟨some ⟨b, o, none⟩, b, o, cap, zs.take 2000⟩, rfl, ?_, (Below.refl _ _).alloc (Nat.le_refl _) _, by simp⟩
    have hlt := hz.lt hne
    have hlen : (zs.take 2000).length = 2000 := by simp; omega
    refine ⟨by rw [hlen]; exact heap_alloc_new w _, fun _ => rfl, fun _ => hlt, fun i z hi => ?_, fun i z hi => ?_, by rw [hlen]; exact Nat.le_refl _⟩
    · have hi2 : i < 2000 := by rw [← hlen]; exact (List.getElem?_eq_some_iff.1 hi).1
      rw [List.getElem?_take_of_lt hi2] at hi
      rw [World.cell?_of_block (w := w) (a := ⟨b, o + i, none⟩) (Below.heap_alloc w _ b hlt)]
      exact hz.cell i z hi
    · have hi2 : i < 2000 := by rw [← hlen]; exact (List.getElem?_eq_some_iff.1 hi).1
      rw [List.getElem?_take_of_lt hi2] at hi
      exact hz.rng i z hi
  · have h1 : ¬ (2000 : Int) < (zs.length : Int) := by omega
    go_enter Try.func23, Try.ntmps23
    go_wp2
    go_ret
    refine ⟨rfl, ⟨⟨a, b, o, cap, zs⟩, ?_⟩, (Below.refl _ _).alloc (Nat.le_refl _) _, by simp⟩
    refine ⟨heap_alloc_new w _, hz.here, hz.lt, fun i z hi => ?_, hz.rng, by show zs.length ≤ 2000; omega⟩
    have hne : zs ≠ [] := by intro e; rw [e] at hi; simp at hi
    rw [World.cell?_of_block (w := w) (a := ⟨b, o + i, none⟩) (Below.heap_alloc w _ b (hz.lt hne))]
    exact hz.cell i z hi

theorem flown_len (q s fr b : Int) (l : List Stp) (cs asks : List Int) (hl : l.length ≤ 41) : (flownL q s fr b l cs asks).length ≤ 43 := by
  unfold flownL
  split
  · rename_i h
    by_cases e : (goF q s fr b l cs asks).length = l.length + 1
    · omega
    · unfold flownB at h
      rw [lawB_len e] at h
      cases h
  · simp

theorem IntsAt.put {w : World} {a : Option Addr} {b o : Nat} {zs : List Int} (h : IntsAt w a b o zs) {k j : Nat} (hk : zs ≠ [] → k ≠ b) (v : Value) : IntsAt (w.setCell ⟨k, j, none⟩ v) a b o zs where
  here := h.here
  lt hl := by have := h.lt hl; simpa [World.setCell] using this
  cell i z hi := by
    have hne : zs ≠ [] := by intro e; subst e; simp at hi
    rw [World.cell?_setCell_other _ _ _ _ (by intro e; have := congrArg Addr.block e; exact hk hne this)]
    exact h.cell i z hi

/-- What lies when a path has been drawn. -/
structure DrD (w w1 wr : World) (B : Nat) (R : Rdr) (p X : Nat) (q s fr b : Int) (a : Option Addr) (b0 o cap : Nat) (l : List Stp) : Prop where
  rd : RdW w1 wr B R p
  base : w1.heap.size = w.heap.size + 2
  isB : B = w.heap.size + 1
  old : Below w.heap.size w w1
  ge : w1.heap.size ≤ X
  res : PathAt wr w.heap.size 0 0 0 0 (.slice none 0 0)
  pa : PathAt wr X q s fr b (.slice a l.length cap)
  len : l.length ≤ 41
  st : StepsIn wr a b0 o l
  b0B : l ≠ [] → b0 ≠ B
section
variable {w w1 wr w' : World} {B : Nat} {R : Rdr} {p p' X : Nat} {q s fr b : Int} {a : Option Addr} {b0 o cap : Nat} {l : List Stp}
theorem DrD.more (h : DrD w w1 wr B R p X q s fr b a b0 o cap l) (hr : RdAt w' B R p') (hg : wr.grownBy w' (some B)) : DrD w w1 w' B R p' X q s fr b a b0 o cap l := by
  have h1 := h.base
  have h2 := h.isB
  have h3 := h.ge
  exact ⟨h.rd.more hr hg, h.base, h.isB, h.old, h.ge, h.res.grown hg (by simp; omega), h.pa.grown hg (by simp; omega), h.len, h.st.grown hg (fun hl e => h.b0B hl (by cases e; rfl)), h.b0B⟩
theorem DrD.below (h : DrD w w1 wr B R p X q s fr b a b0 o cap l) (hb : Below wr.heap.size wr w') : DrD w w1 w' B R p X q s fr b a b0 o cap l :=
  ⟨h.rd.below hb, h.base, h.isB, h.old, h.ge, h.res.keep hb h.res.lt, h.pa.keep hb h.pa.lt, h.len, h.st.below hb, h.b0B⟩
theorem DrD.drew (h : DrD w w1 wr B R p X q s fr b a b0 o cap l) : DrD w w1 wr.drew B R p X q s fr b a b0 o cap l := h.below (Below.refl _ _).drew
theorem DrD.alloc (h : DrD w w1 wr B R p X q s fr b a b0 o cap l) (ob : Obj) : DrD w w1 (wr.alloc ob) B R p X q s fr b a b0 o cap l := h.below ((Below.refl _ _).alloc (Nat.le_refl _) ob)
theorem DrD.was (h : DrD w w1 wr B R p X q s fr b a b0 o cap l) : Below w.heap.size w wr := by
  have h1 := h.base
  have h2 := h.isB
  have h3 := h.rd.gr
  exact h.old.trans ⟨h3.os, h3.tape, h3.output, h3.size, fun k hk => h3.block k (by omega) (fun e => by cases e; omega)⟩
theorem DrD.own (h : DrD w w1 wr B R p X q s fr b a b0 o cap l) {v : Value} {n : Nat} {xs : List Value} (ho : wr.ownsRow w1.heap.size 3 1 v n xs) (hg : wr.grownBy w' v.ownBlock) : DrD w w1 w' B R p X q s fr b a b0 o cap l := by
  have h1 := h.base
  have h2 := h.isB
  have h3 := h.ge
  have hv := owns_base ho
  have ne : ∀ {k : Nat} {cs : Array Value} {t : TypeId}, wr.heap[k]? = some (.cells cs t (0, 0)) → t ≠ 3 → v.ownBlock ≠ some k := fun hk ht e => by
    rcases ho.2 with ⟨rfl, _⟩ | ⟨g, cap, cur, rfl, _, hh, _⟩
    · simp [Value.ownBlock] at e
    · simp [Value.ownBlock] at e
      subst e
      rw [hk] at hh
      have := congrArg (fun o => match o with | some (Obj.cells _ t _) => t | _ => 0) hh
      exact ht (by simpa using this)
  refine ⟨h.rd.grown hg (fun k e => hv k e), h.base, h.isB, h.old, h.ge, h.res.grown hg (ne h.res.it (by decide)), h.pa.grown hg (ne h.pa.it (by decide)), h.len, h.st.grown hg (fun hl => by obtain ⟨cur, hc⟩ := h.st.ty hl; exact ne hc (by decide)), h.b0B⟩
theorem DrD.post (h : DrD w w1 wr B R p X q s fr b a b0 o cap l) {d : Option Addr} {dg do_ dcap : Nat} {zs : List Int} (hl : zs.length ≤ 1000) (hI : IntsAt wr d dg do_ zs) (hd : zs ≠ [] → dg ≠ w.heap.size) :
    ∃ q' s' fr' b' a' b0' o' cap' l' c db do' dc zs', Ending.returned (.tuple #[.agg #[.int .i64 q, .int .i64 s, .slice a l.length cap, .int .i64 fr, .int .i64 b], .slice d zs.length dcap]) = .returned (.tuple #[.agg #[.int .i64 q', .int .i64 s', .slice a' l'.length cap', .int .i64 fr', .int .i64 b'], .slice c zs'.length dc]) ∧
      l'.length ≤ 41 ∧ StepsAt (((((wr.setCell ⟨w.heap.size, 0, none⟩ (.int .i64 q)).setCell ⟨w.heap.size, 1, none⟩ (.int .i64 s)).setCell ⟨w.heap.size, 2, none⟩ (.slice a l.length cap)).setCell ⟨w.heap.size, 3, none⟩ (.int .i64 fr)).setCell ⟨w.heap.size, 4, none⟩ (.int .i64 b)) a' b0' o' l' ∧ zs'.length ≤ 1000 ∧
      IntsAt (((((wr.setCell ⟨w.heap.size, 0, none⟩ (.int .i64 q)).setCell ⟨w.heap.size, 1, none⟩ (.int .i64 s)).setCell ⟨w.heap.size, 2, none⟩ (.slice a l.length cap)).setCell ⟨w.heap.size, 3, none⟩ (.int .i64 fr)).setCell ⟨w.heap.size, 4, none⟩ (.int .i64 b)) c db do' zs' ∧
      Below w.heap.size w (((((wr.setCell ⟨w.heap.size, 0, none⟩ (.int .i64 q)).setCell ⟨w.heap.size, 1, none⟩ (.int .i64 s)).setCell ⟨w.heap.size, 2, none⟩ (.slice a l.length cap)).setCell ⟨w.heap.size, 3, none⟩ (.int .i64 fr)).setCell ⟨w.heap.size, 4, none⟩ (.int .i64 b)) := by
  have h1 := h.base
  have h2 := h.isB
  have h3 := h.rd.size
  have hne : l ≠ [] → w.heap.size ≠ b0 := fun hl e => by
    obtain ⟨cur, hc⟩ := h.st.ty hl
    rw [← e, h.res.it] at hc
    have := congrArg (fun o => match o with | some (Obj.cells _ t _) => t | _ => 0) hc
    simp at this
  refine ⟨q, s, fr, b, a, b0, o, cap, l, d, dg, do_, dcap, zs, rfl, h.len, ?_, hl, ?_, ?_⟩
  · iterate 5 (refine StepsAt.grown ?_ (grown_set _ _ _) (fun hl e => hne hl (by cases e; rfl)))
    exact h.st.st
  · iterate 5 (refine IntsAt.put ?_ (fun hl => Ne.symm (hd hl)) _)
    exact hI
  · iterate 5 (refine Below.setCell ?_ (show w.heap.size ≤ w.heap.size from Nat.le_refl _) _)
    exact h.was
end

set_option maxRecDepth 20000 in
set_option maxHeartbeats 4000000 in
theorem lawful_draw (a0 : Option Addr) (cb co ccap : Nat) (zs0 : List Int) (w : World) (hz : BytesAt w a0 cb co zs0) (hl : zs0.length ≤ 1048576) (hc : zs0.length ≤ ccap) :
    Calls Try.prog 6 #[.slice a0 zs0.length ccap] w fun e w' => ∃ q s fr b a b0 o cap l c db do_ dcap zs, e = .returned (.tuple #[.agg #[.int .i64 q, .int .i64 s, .slice a l.length cap, .int .i64 fr, .int .i64 b], .slice c zs.length dcap]) ∧
      l.length ≤ 41 ∧ StepsAt w' a b0 o l ∧ zs.length ≤ 1000 ∧ IntsAt w' c db do_ zs ∧ Below w.heap.size w w' := by
  obtain ⟨i0, hinf, hz0, hz1, hz2⟩ := info_parts int_info
  have P0 := PathAt.new w 0 0 0 0 (.slice none 0 0)
  have hz' : BytesAt (w.alloc (.cells #[.int .i64 0, .int .i64 0, .slice none 0 0, .int .i64 0, .int .i64 0] 27)) a0 cb co zs0 := ⟨hz.here, fun h => by have := hz.lt h; simp; omega, fun i z hi => by
    have hne : zs0 ≠ [] := by intro e; rw [e] at hi; simp at hi
    rw [World.cell?_of_block (w := w) (a := ⟨cb, co + i, none⟩) (Below.heap_alloc w _ cb (hz.lt hne))]
    exact hz.cell i z hi, hz.rng⟩
  go_enter Try.func6, Try.ntmps6
  go_wp2_with fail
  refine (open_any a0 cb co ccap zs0 _ hz' hl hc).mono ?_
  rintro e w1 ⟨R, rfl, r1, hb1, s1⟩
  rw [World.size_alloc] at r1 s1
  have P1 := P0.keep hb1 P0.lt
  have B1 : Below w.heap.size w w1 := ((Below.refl _ _).alloc (Nat.le_refl _) _).trans (hb1.mono (by simp))
  clear hb1 P0 hz'
  go_wp2_with fail
  refine (any_draw (w.heap.size + 1) R 0 _ r1 (by omega)).mono ?_
  rintro e w2 ⟨q, s, fr, b, a, b0, o, cap, l, p2, rfl, hl2, hs2, hb0, hp2, R2⟩
  have P2 := P1.grown R2.gr (by simp)
  have D3 : DrD w w1 (w2.alloc (.cells #[.int .i64 q, .int .i64 s, .slice a l.length cap, .int .i64 fr, .int .i64 b] 27)) (w.heap.size + 1) R p2 w2.heap.size q s fr b a b0 o cap l :=
    ⟨R2.alloc _, s1, rfl, B1, R2.size, P2.keep ((Below.refl _ _).alloc (Nat.le_refl _) _) P2.lt, PathAt.new w2 q s fr b _, hl2, hs2.alloc _, fun h => by have := hb0 h; omega⟩
  clear P1 B1 r1 R2 P2 hs2 hb0 hl2
  go_wp2
  generalize (w2.alloc (.cells #[.int .i64 q, .int .i64 s, .slice a l.length cap, .int .i64 fr, .int .i64 b] 27)) = w3 at *
  generalize w2.heap.size = X at *
  obtain ⟨⟨e0, e1, e2, e3, e4⟩, ef⟩ := D3.pa.cells
  have hXl := D3.pa.lt
  have hp2' : p2 ≤ 5300 := by omega
  go_cut [6, 7] (fun s6 s7 wc => ∃ (v : Value) (zs : List Int) (p' : Nat), s6 = v ∧ zs.length ≤ 43 ∧ wc.ownsRow w1.heap.size 3 1 v zs.length (intCells zs) ∧ p' ≤ 5400 ∧ DrD w w1 wc (w.heap.size + 1) R p' X q s fr b a b0 o cap l)
  case first =>
    go_region_held3 (fun w' => w'.cell? ⟨X, 0, none⟩ = some (.int .i64 q) ∧ w'.cell? ⟨X, 1, none⟩ = some (.int .i64 s) ∧ w'.cell? ⟨X, 2, none⟩ = some (.slice a l.length cap) ∧ w'.cell? ⟨X, 3, none⟩ = some (.int .i64 fr) ∧ w'.cell? ⟨X, 4, none⟩ = some (.int .i64 b))
      (simp [go_sem, World.cell?_alloc_lt, *])
      (first
        | (go_at_call 26; refine (asked_draw (w.heap.size + 1) R p2 q s fr b a b0 o cap l _ ?_ (by omega) D3.len ?_).mono ?_; (first | exact D3.drew.rd.rd | exact (D3.alloc _).drew.rd.rd | exact (D3.drew.alloc _).rd.rd); (first | exact D3.drew.st.st | exact (D3.alloc _).drew.st.st | exact (D3.drew.alloc _).st.st); rintro e w4 ⟨v4, az, p4, rfl, hal, ho4, hp4, R4⟩; have D4 : DrD w w1 w4 (w.heap.size + 1) R p4 X q s fr b a b0 o cap l := (by first | exact D3.drew.more R4.rd R4.gr | exact (D3.alloc _).drew.more R4.rd R4.gr | exact (D3.drew.alloc _).more R4.rd R4.gr); obtain ⟨⟨e0', e1', e2', e3', e4'⟩, ef'⟩ := D4.pa.cells; have hX4 := D4.pa.lt; obtain ⟨d, dg, dcap, rfl, hIa, _⟩ := ints_owned ho4)
        | (go_at_call 25; refine (flyGoS_any q s fr b a b0 o cap l _ 0 0 [] d dg 0 dcap az _ (by have := D3.len; omega) (by simp) (by omega) ?_ ⟨fun h => absurd rfl h, fun h => absurd rfl h, fun i z hi => by simp at hi⟩ ?_).mono ?_; (first | exact D4.st.st | exact D4.drew.st.st | exact (D4.alloc _).st.st); (first | exact hIa | exact hIa.alloc _); rintro e w5 ⟨v5, rfl, ho5, hb5⟩; have D5 : DrD w w1 w5 (w.heap.size + 1) R p4 X q s fr b a b0 o cap l := (by first | exact D4.below hb5 | exact D4.drew.below hb5 | exact (D4.alloc _).below hb5); obtain ⟨⟨e0'', e1'', e2'', e3'', e4''⟩, ef''⟩ := D5.pa.cells))
    all_goals
      go_wp2
      go_meet
      case rel =>
        have hbs := D4.rd.size
        refine ⟨v5, flownL q s fr b l [] az, p4, rfl, flown_len q s fr b l [] az (by have := D3.len; omega), ?_, by omega, D5⟩
        exact ⟨ho5.1, ho5.2.imp id fun ⟨g, cap, cur, h1, h2, h3⟩ => ⟨g, cap, cur, h1, by first | omega | (simp at h2; omega), h3⟩⟩
  case rest =>
    obtain ⟨v, zs, p3, hv, hzl, ho3, hp3, D4⟩ := hcut
    clear D3 e0 e1 e2 e3 e4 ef hXl
    obtain ⟨d, dg, dcap, rfl, hI3, hdg⟩ := ints_owned ho3
    subst hv
    by_cases h0 : zs.length = 0
    · have hzn : zs = [] := List.eq_nil_of_length_eq_zero h0
      subst hzn
      go_wp2_with fail
      refine (pick_any (w.heap.size + 1) R (p3) 16 _ D4.rd.rd (by omega)).mono ?_
      rintro e w20 ⟨rfl, r20, g20, s20⟩
      have D20 := D4.more r20 g20
      have ho20 := owns_grown ho3 g20 (fun k e => by cases e; have := D4.base; omega)
      clear r20 g20 s20 ho3 D4
      generalize pickV R (p3) 16 = m20
      obtain ⟨⟨e0, e1, e2, e3, e4⟩, ef⟩ := D20.pa.cells
      obtain ⟨⟨f0, f1, f2, f3, f4⟩, ff⟩ := D20.res.cells
      have hXw : X ≠ w.heap.size := by have := D20.ge; have := D20.base; omega
      have hb20 := D20.base
      have hs20 := D20.rd.size
      by_cases m0 : m20 = 0
      · subst m0
        have hnew := one_new w20 (.int .i64 1) 3
        have hoa := owns_below ho20 ((Below.refl _ _).alloc (Nat.le_refl _) (.cells #[.int .i64 1] 3))
        have D21 := D20.alloc (.cells #[.int .i64 1] 3)
        go_wp2_with (at_builtin; refine wpList_append_own _ rfl (.tmp 49) (.tmp 50) 28 rfl w1.heap.size 3 i0 (.int .i64 0) 1 8 Try.underlying28 hinf hz0 hz1 hz2 rfl (by decide) (.slice d 0 dcap) ([]).length (intCells ([])) rfl hoa ⟨w20.heap.size, 0, none⟩ 1 1 [.int .i64 1] rfl rfl hnew (by simp [Value.oneCell']) (by unfold maxLen; omega) (by omega) (by simp; omega) ?_; intro v6 w6 ho6 hg6 _; rw [← intCells_snoc] at ho6; have D22 := D21.own hoa hg6; obtain ⟨⟨e0', e1', e2', e3', e4'⟩, ef'⟩ := D22.pa.cells; obtain ⟨⟨f0', f1', f2', f3', f4'⟩, ff'⟩ := D22.res.cells)
        obtain ⟨d6, dg6, dcap6, rfl, hI6, hdg6⟩ := ints_owned (zs := ([]) ++ [1]) (by simpa using ho6)
        refine bodyPost_ret (v := .tuple #[.agg #[.int .i64 q, .int .i64 s, .slice a l.length cap, .int .i64 fr, .int .i64 b], .slice d6 (([]) ++ [1]).length dcap6]) (by simp [results, Try.results6, go_sem, *]) rfl ?_
        exact D22.post (by simp <;> omega) hI6 (fun h => by have := owns_base ho6 dg6 (hdg6 h); omega)
      · have m0' : (m20 == 0) = false := beq_eq_false_iff_ne.2 m0
        by_cases m1 : m20 = 1
        · subst m1
          clear m0 m0'
          have hnew := two_new w20 (.int .i64 (-9223372036854775808)) (.int .i64 9223372036854775807) 3
          have hoa := owns_below ho20 ((Below.refl _ _).alloc (Nat.le_refl _) (.cells #[.int .i64 (-9223372036854775808), .int .i64 9223372036854775807] 3))
          have D21 := D20.alloc (.cells #[.int .i64 (-9223372036854775808), .int .i64 9223372036854775807] 3)
          go_wp2_with (at_builtin; refine wpList_append_own _ rfl (.tmp 54) (.tmp 55) 28 rfl w1.heap.size 3 i0 (.int .i64 0) 1 8 Try.underlying28 hinf hz0 hz1 hz2 rfl (by decide) (.slice d 0 dcap) ([]).length (intCells ([])) rfl hoa ⟨w20.heap.size, 0, none⟩ 2 2 [.int .i64 (-9223372036854775808), .int .i64 9223372036854775807] rfl rfl hnew (by simp [Value.oneCell']) (by unfold maxLen; omega) (by omega) (by simp; omega) ?_; intro v6 w6 ho6 hg6 _; have D22 := D21.own hoa hg6; obtain ⟨⟨e0', e1', e2', e3', e4'⟩, ef'⟩ := D22.pa.cells; obtain ⟨⟨f0', f1', f2', f3', f4'⟩, ff'⟩ := D22.res.cells)
          obtain ⟨d6, dg6, dcap6, rfl, hI6, hdg6⟩ := ints_owned (zs := ([]) ++ [-9223372036854775808, 9223372036854775807]) (by simpa [intCells] using ho6)
          refine bodyPost_ret (v := .tuple #[.agg #[.int .i64 q, .int .i64 s, .slice a l.length cap, .int .i64 fr, .int .i64 b], .slice d6 (([]) ++ [-9223372036854775808, 9223372036854775807]).length dcap6]) (by simp [results, Try.results6, go_sem, *]) rfl ?_
          exact D22.post (by simp <;> omega) hI6 (fun h => by have := owns_base ho6 dg6 (hdg6 h); omega)
        · have m1' : (m20 == 1) = false := beq_eq_false_iff_ne.2 m1
          obtain ⟨d6, dg6, dcap6, hv6, hI6, hdg6⟩ := ints_owned ho20
          cases hv6
          go_wp2
          refine bodyPost_ret (v := .tuple #[.agg #[.int .i64 q, .int .i64 s, .slice a l.length cap, .int .i64 fr, .int .i64 b], .slice d 0 dcap]) (by simp [results, Try.results6, go_sem, *]) rfl ?_
          exact D20.post (by first | omega | simp) hI6 (fun h => by have := owns_base ho20 dg6 (hdg6 h); omega)
    · have k0 : (0 : Int) < (zs.length : Int) := by omega
      go_wp2_with fail
      refine (pick_any (w.heap.size + 1) R p3 2 _ D4.rd.rd (by omega)).mono ?_
      rintro e w4 ⟨rfl, r4, g4, s4⟩
      have D5 := D4.more r4 g4
      have ho5 := owns_grown ho3 g4 (fun k e => by cases e; have := D4.base; omega)
      clear r4 g4 s4 ho3 hI3 D4
      generalize pickV R p3 2 = m
      by_cases hm : m = 0
      · subst hm
        obtain ⟨g, gcap, hgv, hg1, hg2⟩ := owns_some ho5 (by omega)
        cases hgv
        go_wp2_with fail
        refine (pick_any (w.heap.size + 1) R (p3 + 1) (zs.length : Int) _ D5.rd.rd (by omega)).mono ?_
        rintro e w5 ⟨rfl, r5, g5, s5⟩
        have D6 := D5.more r5 g5
        have ho6 := owns_grown ho5 g5 (fun k e => by cases e; have := D5.base; omega)
        obtain ⟨kn, hkn⟩ : ∃ kn : Nat, pickV R (p3 + 1) (zs.length : Int) = (kn : Int) := Int.eq_ofNat_of_zero_le (pickV_range D5.rd.rd.rng (by omega) (by omega)).1
        have hk := (pickV_range (n := (zs.length : Int)) D5.rd.rd.rng (show p3 + 1 ≤ 1000000000 by omega) (by omega)).2
        rw [hkn] at hk ⊢
        clear hkn D5 r5 g5 s5 ho5
        have kk0 : (0 : Int) ≤ (kn : Int) := by omega
        have hkl : kn < zs.length := by omega
        obtain ⟨z, hzk⟩ : ∃ z, zs[kn]? = some z := ⟨_, List.getElem?_eq_getElem hkl⟩
        have x0 := (ho6.cellAt kn (by omega)).trans (intCells_get zs kn z hzk)
        have hgB : g ≠ w.heap.size + 1 := by have := D6.base; omega
        have hgl : g < w5.heap.size := owns_lt ho6 g rfl
        clear hzk
        go_wp2
        have qn := ClsR.any w5 (w.heap.size + 1)
        have q0 : ∀ u : ClsR w5 (w.heap.size + 1), u.it.cell? ⟨g, kn, none⟩ = some (.int .i64 z) := fun u => (ClsR.cell hgl hgB u _).trans x0
        refine region_picks 7 11 _ _ D6.rd.rd (by kernel_rfl) (by kernel_rfl) (by decide) (by decide) rfl rfl rfl (by kernel_rfl) ?_
        refine pc_quiet 7 rfl (by omega) ?_
        simp only [List.take_succ_cons, List.take_zero]
        repeat (go_big_quiet_step (fail))
        refine wpQuiet_nil ?_
        simp only [List.drop_succ_cons, List.drop_zero]
        refine pc_pick (by omega) rfl 5 (fun W' => by go_simp) ?_
        generalize pickV R (p3 + 1 + 1) 5 = z0
        simp only [Act.put, List.setIfInBounds_toArray, List.set_cons_succ, List.set_cons_zero]
        refine pc_quiet 3 rfl (by omega) ?_
        simp only [List.take_succ_cons, List.take_zero]
        repeat (go_big_quiet_step (fail))
        refine wpQuiet_nil ?_
        refine wpMoves_nil ?_
        intro w6 g6 s6 r6
        have D7 := D6.more r6 g6
        have ho7 := owns_grown ho6 g6 (fun k e => by cases e; have := D6.base; omega)
        clear q0 qn x0 D6 ho6 r6 g6 s6
        refine any_end1 (N := 11) _ rfl (by kernel_rfl) (by kernel_rfl) rfl rfl ?_
        generalize wrap64 (wrap64 (z + z0) - 2) = zn
        obtain ⟨u0, hc⟩ := some_get2 (ho7.cellAt kn (by omega)) ho7.1 (by omega)
        have hf := ho7.frozenAt
        have ho8 := owns_put ho7 (j := kn) (by omega) (.int .i64 zn)
        have D8 := D7.own ho7 (w' := w6.setCell ⟨g, kn, none⟩ (.int .i64 zn)) (grown_set w6 ⟨g, kn, none⟩ (.int .i64 zn))
        have hcs : (intCells zs).set kn (.int .i64 zn) = intCells (zs.set kn zn) := by simp [intCells, List.map_set]
        rw [hcs] at ho8
        have ho9 : (w6.setCell ⟨g, kn, none⟩ (.int .i64 zn)).ownsRow w1.heap.size 3 1 (.slice (some ⟨g, 0, none⟩) zs.length dcap) (zs.set kn zn).length (intCells (zs.set kn zn)) := by rw [List.length_set]; exact ho8
        clear hcs ho8 ho7 D7
        unfold Oper.wp
        go_simp
        clear hc hf
        generalize w6.setCell ⟨g, kn, none⟩ (.int .i64 zn) = w7 at *
        have hzl2 : (zs.set kn zn).length ≤ 43 := by rw [List.length_set]; exact hzl
        have hzz : zs.length = (zs.set kn zn).length := by rw [List.length_set]
        rw [hzz] at ho9 ⊢
        generalize zs.set kn zn = ys at *
        clear hzz
        go_wp2_with fail
        refine (pick_any (w.heap.size + 1) R (p3 + 1 + 1 + 1) 16 _ D8.rd.rd (by omega)).mono ?_
        rintro e w20 ⟨rfl, r20, g20, s20⟩
        have D20 := D8.more r20 g20
        have ho20 := owns_grown ho9 g20 (fun k e => by cases e; have := D8.base; omega)
        clear r20 g20 s20 ho9 D8
        generalize pickV R (p3 + 1 + 1 + 1) 16 = m20
        obtain ⟨⟨e0, e1, e2, e3, e4⟩, ef⟩ := D20.pa.cells
        obtain ⟨⟨f0, f1, f2, f3, f4⟩, ff⟩ := D20.res.cells
        have hXw : X ≠ w.heap.size := by have := D20.ge; have := D20.base; omega
        have hb20 := D20.base
        have hs20 := D20.rd.size
        by_cases m0 : m20 = 0
        · subst m0
          have hnew := one_new w20 (.int .i64 1) 3
          have hoa := owns_below ho20 ((Below.refl _ _).alloc (Nat.le_refl _) (.cells #[.int .i64 1] 3))
          have D21 := D20.alloc (.cells #[.int .i64 1] 3)
          go_wp2_with (at_builtin; refine wpList_append_own _ rfl (.tmp 49) (.tmp 50) 28 rfl w1.heap.size 3 i0 (.int .i64 0) 1 8 Try.underlying28 hinf hz0 hz1 hz2 rfl (by decide) (.slice (some ⟨g, 0, none⟩) ys.length dcap) (ys).length (intCells (ys)) rfl hoa ⟨w20.heap.size, 0, none⟩ 1 1 [.int .i64 1] rfl rfl hnew (by simp [Value.oneCell']) (by unfold maxLen; omega) (by omega) (by simp; omega) ?_; intro v6 w6 ho6 hg6 _; rw [← intCells_snoc] at ho6; have D22 := D21.own hoa hg6; obtain ⟨⟨e0', e1', e2', e3', e4'⟩, ef'⟩ := D22.pa.cells; obtain ⟨⟨f0', f1', f2', f3', f4'⟩, ff'⟩ := D22.res.cells)
          obtain ⟨d6, dg6, dcap6, rfl, hI6, hdg6⟩ := ints_owned (zs := (ys) ++ [1]) (by simpa using ho6)
          refine bodyPost_ret (v := .tuple #[.agg #[.int .i64 q, .int .i64 s, .slice a l.length cap, .int .i64 fr, .int .i64 b], .slice d6 ((ys) ++ [1]).length dcap6]) (by simp [results, Try.results6, go_sem, *]) rfl ?_
          exact D22.post (by simp <;> omega) hI6 (fun h => by have := owns_base ho6 dg6 (hdg6 h); omega)
        · have m0' : (m20 == 0) = false := beq_eq_false_iff_ne.2 m0
          by_cases m1 : m20 = 1
          · subst m1
            clear m0 m0'
            have hnew := two_new w20 (.int .i64 (-9223372036854775808)) (.int .i64 9223372036854775807) 3
            have hoa := owns_below ho20 ((Below.refl _ _).alloc (Nat.le_refl _) (.cells #[.int .i64 (-9223372036854775808), .int .i64 9223372036854775807] 3))
            have D21 := D20.alloc (.cells #[.int .i64 (-9223372036854775808), .int .i64 9223372036854775807] 3)
            go_wp2_with (at_builtin; refine wpList_append_own _ rfl (.tmp 54) (.tmp 55) 28 rfl w1.heap.size 3 i0 (.int .i64 0) 1 8 Try.underlying28 hinf hz0 hz1 hz2 rfl (by decide) (.slice (some ⟨g, 0, none⟩) ys.length dcap) (ys).length (intCells (ys)) rfl hoa ⟨w20.heap.size, 0, none⟩ 2 2 [.int .i64 (-9223372036854775808), .int .i64 9223372036854775807] rfl rfl hnew (by simp [Value.oneCell']) (by unfold maxLen; omega) (by omega) (by simp; omega) ?_; intro v6 w6 ho6 hg6 _; have D22 := D21.own hoa hg6; obtain ⟨⟨e0', e1', e2', e3', e4'⟩, ef'⟩ := D22.pa.cells; obtain ⟨⟨f0', f1', f2', f3', f4'⟩, ff'⟩ := D22.res.cells)
            obtain ⟨d6, dg6, dcap6, rfl, hI6, hdg6⟩ := ints_owned (zs := (ys) ++ [-9223372036854775808, 9223372036854775807]) (by simpa [intCells] using ho6)
            refine bodyPost_ret (v := .tuple #[.agg #[.int .i64 q, .int .i64 s, .slice a l.length cap, .int .i64 fr, .int .i64 b], .slice d6 ((ys) ++ [-9223372036854775808, 9223372036854775807]).length dcap6]) (by simp [results, Try.results6, go_sem, *]) rfl ?_
            exact D22.post (by simp <;> omega) hI6 (fun h => by have := owns_base ho6 dg6 (hdg6 h); omega)
          · have m1' : (m20 == 1) = false := beq_eq_false_iff_ne.2 m1
            obtain ⟨d6, dg6, dcap6, hv6, hI6, hdg6⟩ := ints_owned ho20
            cases hv6
            go_wp2
            refine bodyPost_ret (v := .tuple #[.agg #[.int .i64 q, .int .i64 s, .slice a l.length cap, .int .i64 fr, .int .i64 b], .slice (some ⟨g, 0, none⟩) ys.length dcap]) (by simp [results, Try.results6, go_sem, *]) rfl ?_
            exact D20.post (by first | omega | simp) hI6 (fun h => by have := owns_base ho20 dg6 (hdg6 h); omega)
      · have hm' : (m == 0) = false := beq_eq_false_iff_ne.2 hm
        go_wp2_with fail
        refine (pick_any (w.heap.size + 1) R (p3 + 1) 16 _ D5.rd.rd (by omega)).mono ?_
        rintro e w20 ⟨rfl, r20, g20, s20⟩
        have D20 := D5.more r20 g20
        have ho20 := owns_grown ho5 g20 (fun k e => by cases e; have := D5.base; omega)
        clear r20 g20 s20 ho5 D5
        generalize pickV R (p3 + 1) 16 = m20
        obtain ⟨⟨e0, e1, e2, e3, e4⟩, ef⟩ := D20.pa.cells
        obtain ⟨⟨f0, f1, f2, f3, f4⟩, ff⟩ := D20.res.cells
        have hXw : X ≠ w.heap.size := by have := D20.ge; have := D20.base; omega
        have hb20 := D20.base
        have hs20 := D20.rd.size
        by_cases m0 : m20 = 0
        · subst m0
          have hnew := one_new w20 (.int .i64 1) 3
          have hoa := owns_below ho20 ((Below.refl _ _).alloc (Nat.le_refl _) (.cells #[.int .i64 1] 3))
          have D21 := D20.alloc (.cells #[.int .i64 1] 3)
          go_wp2_with (at_builtin; refine wpList_append_own _ rfl (.tmp 49) (.tmp 50) 28 rfl w1.heap.size 3 i0 (.int .i64 0) 1 8 Try.underlying28 hinf hz0 hz1 hz2 rfl (by decide) (.slice d zs.length dcap) (zs).length (intCells (zs)) rfl hoa ⟨w20.heap.size, 0, none⟩ 1 1 [.int .i64 1] rfl rfl hnew (by simp [Value.oneCell']) (by unfold maxLen; omega) (by omega) (by simp; omega) ?_; intro v6 w6 ho6 hg6 _; rw [← intCells_snoc] at ho6; have D22 := D21.own hoa hg6; obtain ⟨⟨e0', e1', e2', e3', e4'⟩, ef'⟩ := D22.pa.cells; obtain ⟨⟨f0', f1', f2', f3', f4'⟩, ff'⟩ := D22.res.cells)
          obtain ⟨d6, dg6, dcap6, rfl, hI6, hdg6⟩ := ints_owned (zs := (zs) ++ [1]) (by simpa using ho6)
          refine bodyPost_ret (v := .tuple #[.agg #[.int .i64 q, .int .i64 s, .slice a l.length cap, .int .i64 fr, .int .i64 b], .slice d6 ((zs) ++ [1]).length dcap6]) (by simp [results, Try.results6, go_sem, *]) rfl ?_
          exact D22.post (by simp <;> omega) hI6 (fun h => by have := owns_base ho6 dg6 (hdg6 h); omega)
        · have m0' : (m20 == 0) = false := beq_eq_false_iff_ne.2 m0
          by_cases m1 : m20 = 1
          · subst m1
            clear m0 m0'
            have hnew := two_new w20 (.int .i64 (-9223372036854775808)) (.int .i64 9223372036854775807) 3
            have hoa := owns_below ho20 ((Below.refl _ _).alloc (Nat.le_refl _) (.cells #[.int .i64 (-9223372036854775808), .int .i64 9223372036854775807] 3))
            have D21 := D20.alloc (.cells #[.int .i64 (-9223372036854775808), .int .i64 9223372036854775807] 3)
            go_wp2_with (at_builtin; refine wpList_append_own _ rfl (.tmp 54) (.tmp 55) 28 rfl w1.heap.size 3 i0 (.int .i64 0) 1 8 Try.underlying28 hinf hz0 hz1 hz2 rfl (by decide) (.slice d zs.length dcap) (zs).length (intCells (zs)) rfl hoa ⟨w20.heap.size, 0, none⟩ 2 2 [.int .i64 (-9223372036854775808), .int .i64 9223372036854775807] rfl rfl hnew (by simp [Value.oneCell']) (by unfold maxLen; omega) (by omega) (by simp; omega) ?_; intro v6 w6 ho6 hg6 _; have D22 := D21.own hoa hg6; obtain ⟨⟨e0', e1', e2', e3', e4'⟩, ef'⟩ := D22.pa.cells; obtain ⟨⟨f0', f1', f2', f3', f4'⟩, ff'⟩ := D22.res.cells)
            obtain ⟨d6, dg6, dcap6, rfl, hI6, hdg6⟩ := ints_owned (zs := (zs) ++ [-9223372036854775808, 9223372036854775807]) (by simpa [intCells] using ho6)
            refine bodyPost_ret (v := .tuple #[.agg #[.int .i64 q, .int .i64 s, .slice a l.length cap, .int .i64 fr, .int .i64 b], .slice d6 ((zs) ++ [-9223372036854775808, 9223372036854775807]).length dcap6]) (by simp [results, Try.results6, go_sem, *]) rfl ?_
            exact D22.post (by simp <;> omega) hI6 (fun h => by have := owns_base ho6 dg6 (hdg6 h); omega)
          · have m1' : (m20 == 1) = false := beq_eq_false_iff_ne.2 m1
            obtain ⟨d6, dg6, dcap6, hv6, hI6, hdg6⟩ := ints_owned ho20
            cases hv6
            go_wp2
            refine bodyPost_ret (v := .tuple #[.agg #[.int .i64 q, .int .i64 s, .slice a l.length cap, .int .i64 fr, .int .i64 b], .slice d zs.length dcap]) (by simp [results, Try.results6, go_sem, *]) rfl ?_
            exact D20.post (by first | omega | simp) hI6 (fun h => by have := owns_base ho20 dg6 (hdg6 h); omega)
end Go.Proofs.Ytcheigbpoopjgaa

namespace Go.Proofs.Ytcheigbpoopjgaa
open Go.RowKit

theorem PathAt.set5 {W : World} {H : Nat} {q0 s0 fr0 b0 : Int} {v0 : Value} (h : PathAt W H q0 s0 fr0 b0 v0) (q s fr b : Int) (v : Value) :
    PathAt (((((W.setCell ⟨H, 0, none⟩ (.int .i64 q)).setCell ⟨H, 1, none⟩ (.int .i64 s)).setCell ⟨H, 2, none⟩ v).setCell ⟨H, 3, none⟩ (.int .i64 fr)).setCell ⟨H, 4, none⟩ (.int .i64 b)) H q s fr b v := by
  have h1 := h.it
  refine ⟨?_⟩
  simp [World.setCell, Array.getElem?_modify, h1]

theorem PathAt.alloc {w : World} {B : Nat} {q s fr b : Int} {v : Value} (h : PathAt w B q s fr b v) (x : Obj) : PathAt (w.alloc x) B q s fr b v := h.keep ((Below.refl _ _).alloc (Nat.le_refl _) _) h.lt

theorem ret_shift {W : World} {H : Nat} {q s fr b d : Int} {v : Value} (h : PathAt W H q s fr b v) (T : Array Value) (h2 : T[2]? = some (.pointer (some ⟨H, 0, none⟩))) (h3 : T[3]? = some (.int .i64 d)) :
    (results Try.f19 T).run Try.prog W = .ok (.tuple #[.agg #[.int .i64 q, .int .i64 s, v, .int .i64 fr, .int .i64 b], .int .i64 d]) W := by
  obtain ⟨⟨c0, c1, c2, c3, c4⟩, cf⟩ := h.cells
  simp [results, Try.results19, go_sem, h2, h3, c0, c1, c2, c3, c4]
end Go.Proofs.Ytcheigbpoopjgaa
