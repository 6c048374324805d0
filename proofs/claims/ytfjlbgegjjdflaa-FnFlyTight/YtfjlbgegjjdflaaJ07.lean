/- Joined texts: Draw4, SpDraw, WfAllow, EndMath, TightMath. -/
import Derived.Deep.RegionHeld3
import Derived.BigQuiet
import Derived.Test.YtfjlbgegjjdflaaJ06
import Derived.Test.YtfjlbgegjjdflaaJ03
import Derived.Test.YtfjlbgegjjdflaaJ01
import Derived.Test.YtfjlbgegjjdflaaJ02
namespace Go.Proofs.Ytfjlbgegjjdflaa
open Go.RowKit

/-- The bytes zs lie in block b from offset o on. -/
structure BytesAt (w : World) (a : Option Addr) (b o : Nat) (zs : List Int) : Prop where
  here : zs ≠ [] → a = some ⟨b, o, none⟩
  lt : zs ≠ [] → b < w.heap.size
  cell : ∀ (i : Nat) (z : Int), zs[i]? = some z → w.cell? ⟨b, o + i, none⟩ = some (.int .u8 z)
  rng : ∀ (i : Nat) (z : Int), zs[i]? = some z → 0 ≤ z ∧ z < 256

theorem open_any (a : Option Addr) (b o cap : Nat) (zs : List Int) (w : World) (hz : BytesAt w a b o zs) (hl : zs.length ≤ 1048576) (hc : zs.length ≤ cap) :
    Calls Try.prog 26 #[.slice a zs.length cap] w fun e w' => ∃ R, e = .returned (.pointer (some ⟨w.heap.size, 0, none⟩)) ∧ RdAt w' w.heap.size R 0 ∧ Below w.heap.size w w' ∧ w'.heap.size = w.heap.size + 1 := by
  by_cases h : 2000 < zs.length
  · have hne : zs ≠ [] := by intro e; rw [e] at h; simp at h
    obtain rfl := hz.here hne
    have h1 : (2000 : Int) < (zs.length : Int) := by omega
    have h2 : (2000 : Int) ≤ (cap : Int) := by omega
    go_enter Try.func26, Try.ntmps26
    go_wp2
    go_ret
    refine ⟨⟨some ⟨b, o, none⟩, b, o, cap, zs.take 2000⟩, rfl, ?_, (Below.refl _ _).alloc (Nat.le_refl _) _, by simp⟩
    have hlt := hz.lt hne
    have hlen : (zs.take 2000).length = 2000 := by simp; omega
    refine ⟨by rw [hlen]; exact heap_alloc_new w _, fun _ => rfl, fun _ => hlt, fun i z hi => ?_, fun i z hi => ?_, by rw [hlen]; exact Nat.le_refl _⟩
    · have hi2 : i < 2000 := by rw [← hlen]; exact (List.getElem?_eq_some_iff.1 hi).1
      rw [List.getElem?_take_of_lt hi2] at hi
      rw [World.cell?_of_block (w := w) (a := ⟨b, o + i, none⟩) (Below.heap_alloc w _ b hlt)]
      exact hz.cell i z hi
    · have hi2 : i < 2000 := by rw [← hlen]; exact (List.getElem?_eq_some_iff.1 hi).1
      rw [List.getElem?_take_of_lt hi2] at hi
      exact hz.rng i z hi
  · have h1 : ¬ (2000 : Int) < (zs.length : Int) := by omega
    go_enter Try.func26, Try.ntmps26
    go_wp2
    go_ret
    refine ⟨rfl, ⟨⟨a, b, o, cap, zs⟩, ?_⟩, (Below.refl _ _).alloc (Nat.le_refl _) _, by simp⟩
    refine ⟨heap_alloc_new w _, hz.here, hz.lt, fun i z hi => ?_, hz.rng, by show zs.length ≤ 2000; omega⟩
    have hne : zs ≠ [] := by intro e; rw [e] at hi; simp at hi
    rw [World.cell?_of_block (w := w) (a := ⟨b, o + i, none⟩) (Below.heap_alloc w _ b (hz.lt hne))]
    exact hz.cell i z hi

theorem flown_len (q s fr b : Int) (l : List Stp) (cs asks : List Int) (hl : l.length ≤ 41) : (flownL q s fr b l cs asks).length ≤ 43 := by
  unfold flownL
  split
  · rename_i h
    by_cases e : (goF q s fr b l cs asks).length = l.length + 1
    · omega
    · unfold flownB at h
      rw [lawB_len e] at h
      cases h
  · simp

theorem IntsAt.put {w : World} {a : Option Addr} {b o : Nat} {zs : List Int} (h : IntsAt w a b o zs) {k j : Nat} (hk : zs ≠ [] → k ≠ b) (v : Value) : IntsAt (w.setCell ⟨k, j, none⟩ v) a b o zs where
  here := h.here
  lt hl := by have := h.lt hl; simpa [World.setCell] using this
  cell i z hi := by
    have hne : zs ≠ [] := by intro e; subst e; simp at hi
    rw [World.cell?_setCell_other _ _ _ _ (by intro e; have := congrArg Addr.block e; exact hk hne this)]
    exact h.cell i z hi

/-- What lies when a path has been drawn. -/
structure DrD (w w1 wr : World) (B : Nat) (R : Rdr) (p X : Nat) (q s fr b : Int) (a : Option Addr) (b0 o cap : Nat) (l : List Stp) : Prop where
  rd : RdW w1 wr B R p
  base : w1.heap.size = w.heap.size + 2
  isB : B = w.heap.size + 1
  old : Below w.heap.size w w1
  ge : w1.heap.size ≤ X
  res : PathAt wr w.heap.size 0 0 0 0 (.slice none 0 0)
  pa : PathAt wr X q s fr b (.slice a l.length cap)
  len : l.length ≤ 41
  st : StepsIn wr a b0 o l
  b0B : l ≠ [] → b0 ≠ B
section
variable {w w1 wr w' : World} {B : Nat} {R : Rdr} {p p' X : Nat} {q s fr b : Int} {a : Option Addr} {b0 o cap : Nat} {l : List Stp}
theorem DrD.more (h : DrD w w1 wr B R p X q s fr b a b0 o cap l) (hr : RdAt w' B R p') (hg : wr.grownBy w' (some B)) : DrD w w1 w' B R p' X q s fr b a b0 o cap l := by
  have h1 := h.base
  have h2 := h.isB
  have h3 := h.ge
  exact ⟨h.rd.more hr hg, h.base, h.isB, h.old, h.ge, h.res.grown hg (by simp; omega), h.pa.grown hg (by simp; omega), h.len, h.st.grown hg (fun hl e => h.b0B hl (by cases e; rfl)), h.b0B⟩
theorem DrD.below (h : DrD w w1 wr B R p X q s fr b a b0 o cap l) (hb : Below wr.heap.size wr w') : DrD w w1 w' B R p X q s fr b a b0 o cap l :=
  ⟨h.rd.below hb, h.base, h.isB, h.old, h.ge, h.res.keep hb h.res.lt, h.pa.keep hb h.pa.lt, h.len, h.st.below hb, h.b0B⟩
theorem DrD.drew (h : DrD w w1 wr B R p X q s fr b a b0 o cap l) : DrD w w1 wr.drew B R p X q s fr b a b0 o cap l := h.below (Below.refl _ _).drew
theorem DrD.alloc (h : DrD w w1 wr B R p X q s fr b a b0 o cap l) (ob : Obj) : DrD w w1 (wr.alloc ob) B R p X q s fr b a b0 o cap l := h.below ((Below.refl _ _).alloc (Nat.le_refl _) ob)
theorem DrD.was (h : DrD w w1 wr B R p X q s fr b a b0 o cap l) : Below w.heap.size w wr := by
  have h1 := h.base
  have h2 := h.isB
  have h3 := h.rd.gr
  exact h.old.trans ⟨h3.os, h3.tape, h3.output, h3.size, fun k hk => h3.block k (by omega) (fun e => by cases e; omega)⟩
theorem DrD.own (h : DrD w w1 wr B R p X q s fr b a b0 o cap l) {v : Value} {n : Nat} {xs : List Value} (ho : wr.ownsRow w1.heap.size 3 1 v n xs) (hg : wr.grownBy w' v.ownBlock) : DrD w w1 w' B R p X q s fr b a b0 o cap l := by
  have h1 := h.base
  have h2 := h.isB
  have h3 := h.ge
  have hv := owns_base ho
  have ne : ∀ {k : Nat} {cs : Array Value} {t : TypeId}, wr.heap[k]? = some (.cells cs t (0, 0)) → t ≠ 3 → v.ownBlock ≠ some k := fun hk ht e => by
    rcases ho.2 with ⟨rfl, _⟩ | ⟨g, cap, cur, rfl, _, hh, _⟩
    · simp [Value.ownBlock] at e
    · simp [Value.ownBlock] at e
      subst e
      rw [hk] at hh
      have := congrArg (fun o => match o with | some (Obj.cells _ t _) => t | _ => 0) hh
      exact ht (by simpa using this)
  refine ⟨h.rd.grown hg (fun k e => hv k e), h.base, h.isB, h.old, h.ge, h.res.grown hg (ne h.res.it (by decide)), h.pa.grown hg (ne h.pa.it (by decide)), h.len, h.st.grown hg (fun hl => by obtain ⟨cur, hc⟩ := h.st.ty hl; exact ne hc (by decide)), h.b0B⟩
theorem DrD.post (h : DrD w w1 wr B R p X q s fr b a b0 o cap l) {d : Option Addr} {dg do_ dcap : Nat} {zs : List Int} (hl : zs.length ≤ 1000) (hI : IntsAt wr d dg do_ zs) (hd : zs ≠ [] → dg ≠ w.heap.size) :
    ∃ q' s' fr' b' a' b0' o' cap' l' c db do' dc zs', Ending.returned (.tuple #[.agg #[.int .i64 q, .int .i64 s, .slice a l.length cap, .int .i64 fr, .int .i64 b], .slice d zs.length dcap]) = .returned (.tuple #[.agg #[.int .i64 q', .int .i64 s', .slice a' l'.length cap', .int .i64 fr', .int .i64 b'], .slice c zs'.length dc]) ∧
      l'.length ≤ 41 ∧ StepsAt (((((wr.setCell ⟨w.heap.size, 0, none⟩ (.int .i64 q)).setCell ⟨w.heap.size, 1, none⟩ (.int .i64 s)).setCell ⟨w.heap.size, 2, none⟩ (.slice a l.length cap)).setCell ⟨w.heap.size, 3, none⟩ (.int .i64 fr)).setCell ⟨w.heap.size, 4, none⟩ (.int .i64 b)) a' b0' o' l' ∧ zs'.length ≤ 1000 ∧
      IntsAt (((((wr.setCell ⟨w.heap.size, 0, none⟩ (.int .i64 q)).setCell ⟨w.heap.size, 1, none⟩ (.int .i64 s)).setCell ⟨w.heap.size, 2, none⟩ (.slice a l.length cap)).setCell ⟨w.heap.size, 3, none⟩ (.int .i64 fr)).setCell ⟨w.heap.size, 4, none⟩ (.int .i64 b)) c db do' zs' ∧
      Below w.heap.size w (((((wr.setCell ⟨w.heap.size, 0, none⟩ (.int .i64 q)).setCell ⟨w.heap.size, 1, none⟩ (.int .i64 s)).setCell ⟨w.heap.size, 2, none⟩ (.slice a l.length cap)).setCell ⟨w.heap.size, 3, none⟩ (.int .i64 fr)).setCell ⟨w.heap.size, 4, none⟩ (.int .i64 b)) := by
  have h1 := h.base
  have h2 := h.isB
  have h3 := h.rd.size
  have hne : l ≠ [] → w.heap.size ≠ b0 := fun hl e => by
    obtain ⟨cur, hc⟩ := h.st.ty hl
    rw [← e, h.res.it] at hc
    have := congrArg (fun o => match o with | some (Obj.cells _ t _) => t | _ => 0) hc
    simp at this
  refine ⟨q, s, fr, b, a, b0, o, cap, l, d, dg, do_, dcap, zs, rfl, h.len, ?_, hl, ?_, ?_⟩
  · iterate 5 (refine StepsAt.grown ?_ (grown_set _ _ _) (fun hl e => hne hl (by cases e; rfl)))
    exact h.st.st
  · iterate 5 (refine IntsAt.put ?_ (fun hl => Ne.symm (hd hl)) _)
    exact hI
  · iterate 5 (refine Below.setCell ?_ (show w.heap.size ≤ w.heap.size from Nat.le_refl _) _)
    exact h.was
end

set_option maxRecDepth 20000 in
set_option maxHeartbeats 4000000 in
theorem lawful_draw (a0 : Option Addr) (cb co ccap : Nat) (zs0 : List Int) (w : World) (hz : BytesAt w a0 cb co zs0) (hl : zs0.length ≤ 1048576) (hc : zs0.length ≤ ccap) :
    Calls Try.prog 6 #[.slice a0 zs0.length ccap] w fun e w' => ∃ q s fr b a b0 o cap l c db do_ dcap zs, e = .returned (.tuple #[.agg #[.int .i64 q, .int .i64 s, .slice a l.length cap, .int .i64 fr, .int .i64 b], .slice c zs.length dcap]) ∧
      l.length ≤ 41 ∧ StepsAt w' a b0 o l ∧ zs.length ≤ 1000 ∧ IntsAt w' c db do_ zs ∧ Below w.heap.size w w' := by
  obtain ⟨i0, hinf, hz0, hz1, hz2⟩ := info_parts int_info
  have P0 := PathAt.new w 0 0 0 0 (.slice none 0 0)
  have hz' : BytesAt (w.alloc (.cells #[.int .i64 0, .int .i64 0, .slice none 0 0, .int .i64 0, .int .i64 0] 27)) a0 cb co zs0 := ⟨hz.here, fun h => by have := hz.lt h; simp; omega, fun i z hi => by
    have hne : zs0 ≠ [] := by intro e; rw [e] at hi; simp at hi
    rw [World.cell?_of_block (w := w) (a := ⟨cb, co + i, none⟩) (Below.heap_alloc w _ cb (hz.lt hne))]
    exact hz.cell i z hi, hz.rng⟩
  go_enter Try.func6, Try.ntmps6
  go_wp2_with fail
  refine (open_any a0 cb co ccap zs0 _ hz' hl hc).mono ?_
  rintro e w1 ⟨R, rfl, r1, hb1, s1⟩
  rw [World.size_alloc] at r1 s1
  have P1 := P0.keep hb1 P0.lt
  have B1 : Below w.heap.size w w1 := ((Below.refl _ _).alloc (Nat.le_refl _) _).trans (hb1.mono (by simp))
  clear hb1 P0 hz'
  go_wp2_with fail
  refine (any_draw (w.heap.size + 1) R 0 _ r1 (by omega)).mono ?_
  rintro e w2 ⟨q, s, fr, b, a, b0, o, cap, l, p2, rfl, hl2, hs2, hb0, hp2, R2⟩
  have P2 := P1.grown R2.gr (by simp)
  have D3 : DrD w w1 (w2.alloc (.cells #[.int .i64 q, .int .i64 s, .slice a l.length cap, .int .i64 fr, .int .i64 b] 27)) (w.heap.size + 1) R p2 w2.heap.size q s fr b a b0 o cap l :=
    ⟨R2.alloc _, s1, rfl, B1, R2.size, P2.keep ((Below.refl _ _).alloc (Nat.le_refl _) _) P2.lt, PathAt.new w2 q s fr b _, hl2, hs2.alloc _, fun h => by have := hb0 h; omega⟩
  clear P1 B1 r1 R2 P2 hs2 hb0 hl2
  go_wp2
  generalize (w2.alloc (.cells #[.int .i64 q, .int .i64 s, .slice a l.length cap, .int .i64 fr, .int .i64 b] 27)) = w3 at *
  generalize w2.heap.size = X at *
  obtain ⟨⟨e0, e1, e2, e3, e4⟩, ef⟩ := D3.pa.cells
  have hXl := D3.pa.lt
  have hp2' : p2 ≤ 5300 := by omega
  go_cut [6, 7] (fun s6 s7 wc => ∃ (v : Value) (zs : List Int) (p' : Nat), s6 = v ∧ zs.length ≤ 43 ∧ wc.ownsRow w1.heap.size 3 1 v zs.length (intCells zs) ∧ p' ≤ 5400 ∧ DrD w w1 wc (w.heap.size + 1) R p' X q s fr b a b0 o cap l)
  case first =>
    go_region_held3 (fun w' => w'.cell? ⟨X, 0, none⟩ = some (.int .i64 q) ∧ w'.cell? ⟨X, 1, none⟩ = some (.int .i64 s) ∧ w'.cell? ⟨X, 2, none⟩ = some (.slice a l.length cap) ∧ w'.cell? ⟨X, 3, none⟩ = some (.int .i64 fr) ∧ w'.cell? ⟨X, 4, none⟩ = some (.int .i64 b))
      (simp [go_sem, World.cell?_alloc_lt, *])
      (first
        | (go_at_call 29; refine (asked_draw (w.heap.size + 1) R p2 q s fr b a b0 o cap l _ ?_ (by omega) D3.len ?_).mono ?_; (first | exact D3.drew.rd.rd | exact (D3.alloc _).drew.rd.rd | exact (D3.drew.alloc _).rd.rd); (first | exact D3.drew.st.st | exact (D3.alloc _).drew.st.st | exact (D3.drew.alloc _).st.st); rintro e w4 ⟨v4, az, p4, rfl, hal, ho4, hp4, R4⟩; have D4 : DrD w w1 w4 (w.heap.size + 1) R p4 X q s fr b a b0 o cap l := (by first | exact D3.drew.more R4.rd R4.gr | exact (D3.alloc _).drew.more R4.rd R4.gr | exact (D3.drew.alloc _).more R4.rd R4.gr); obtain ⟨⟨e0', e1', e2', e3', e4'⟩, ef'⟩ := D4.pa.cells; have hX4 := D4.pa.lt; obtain ⟨d, dg, dcap, rfl, hIa, _⟩ := ints_owned ho4)
        | (go_at_call 28; refine (flyGoS_any q s fr b a b0 o cap l _ 0 0 [] d dg 0 dcap az _ (by have := D3.len; omega) (by simp) (by omega) ?_ ⟨fun h => absurd rfl h, fun h => absurd rfl h, fun i z hi => by simp at hi⟩ ?_).mono ?_; (first | exact D4.st.st | exact D4.drew.st.st | exact (D4.alloc _).st.st); (first | exact hIa | exact hIa.alloc _); rintro e w5 ⟨v5, rfl, ho5, hb5⟩; have D5 : DrD w w1 w5 (w.heap.size + 1) R p4 X q s fr b a b0 o cap l := (by first | exact D4.below hb5 | exact D4.drew.below hb5 | exact (D4.alloc _).below hb5); obtain ⟨⟨e0'', e1'', e2'', e3'', e4''⟩, ef''⟩ := D5.pa.cells))
    all_goals
      go_wp2
      go_meet
      case rel =>
        have hbs := D4.rd.size
        refine ⟨v5, flownL q s fr b l [] az, p4, rfl, flown_len q s fr b l [] az (by have := D3.len; omega), ?_, by omega, D5⟩
        exact ⟨ho5.1, ho5.2.imp id fun ⟨g, cap, cur, h1, h2, h3⟩ => ⟨g, cap, cur, h1, by first | omega | (simp at h2; omega), h3⟩⟩
  case rest =>
    obtain ⟨v, zs, p3, hv, hzl, ho3, hp3, D4⟩ := hcut
    clear D3 e0 e1 e2 e3 e4 ef hXl
    obtain ⟨d, dg, dcap, rfl, hI3, hdg⟩ := ints_owned ho3
    subst hv
    by_cases h0 : zs.length = 0
    · have hzn : zs = [] := List.eq_nil_of_length_eq_zero h0
      subst hzn
      go_wp2_with fail
      refine (pick_any (w.heap.size + 1) R (p3) 16 _ D4.rd.rd (by omega)).mono ?_
      rintro e w20 ⟨rfl, r20, g20, s20⟩
      have D20 := D4.more r20 g20
      have ho20 := owns_grown ho3 g20 (fun k e => by cases e; have := D4.base; omega)
      clear r20 g20 s20 ho3 D4
      generalize pickV R (p3) 16 = m20
      obtain ⟨⟨e0, e1, e2, e3, e4⟩, ef⟩ := D20.pa.cells
      obtain ⟨⟨f0, f1, f2, f3, f4⟩, ff⟩ := D20.res.cells
      have hXw : X ≠ w.heap.size := by have := D20.ge; have := D20.base; omega
      have hb20 := D20.base
      have hs20 := D20.rd.size
      by_cases m0 : m20 = 0
      · subst m0
        have hnew := one_new w20 (.int .i64 1) 3
        have hoa := owns_below ho20 ((Below.refl _ _).alloc (Nat.le_refl _) (.cells #[.int .i64 1] 3))
        have D21 := D20.alloc (.cells #[.int .i64 1] 3)
        go_wp2_with (at_builtin; refine wpList_append_own _ rfl (.tmp 49) (.tmp 50) 28 rfl w1.heap.size 3 i0 (.int .i64 0) 1 8 Try.underlying28 hinf hz0 hz1 hz2 rfl (by decide) (.slice d 0 dcap) ([]).length (intCells ([])) rfl hoa ⟨w20.heap.size, 0, none⟩ 1 1 [.int .i64 1] rfl rfl hnew (by simp [Value.oneCell']) (by unfold maxLen; omega) (by omega) (by simp; omega) ?_; intro v6 w6 ho6 hg6 _; rw [← intCells_snoc] at ho6; have D22 := D21.own hoa hg6; obtain ⟨⟨e0', e1', e2', e3', e4'⟩, ef'⟩ := D22.pa.cells; obtain ⟨⟨f0', f1', f2', f3', f4'⟩, ff'⟩ := D22.res.cells)
        obtain ⟨d6, dg6, dcap6, rfl, hI6, hdg6⟩ := ints_owned (zs := ([]) ++ [1]) (by simpa using ho6)
        refine bodyPost_ret (v := .tuple #[.agg #[.int .i64 q, .int .i64 s, .slice a l.length cap, .int .i64 fr, .int .i64 b], .slice d6 (([]) ++ [1]).length dcap6]) (by simp [results, Try.results6, go_sem, *]) rfl ?_
        exact D22.post (by simp <;> omega) hI6 (fun h => by have := owns_base ho6 dg6 (hdg6 h); omega)
      · have m0' : (m20 == 0) = false := beq_eq_false_iff_ne.2 m0
        by_cases m1 : m20 = 1
        · subst m1
          clear m0 m0'
          have hnew := two_new w20 (.int .i64 (-9223372036854775808)) (.int .i64 9223372036854775807) 3
          have hoa := owns_below ho20 ((Below.refl _ _).alloc (Nat.le_refl _) (.cells #[.int .i64 (-9223372036854775808), .int .i64 9223372036854775807] 3))
          have D21 := D20.alloc (.cells #[.int .i64 (-9223372036854775808), .int .i64 9223372036854775807] 3)
          go_wp2_with (at_builtin; refine wpList_append_own _ rfl (.tmp 54) (.tmp 55) 28 rfl w1.heap.size 3 i0 (.int .i64 0) 1 8 Try.underlying28 hinf hz0 hz1 hz2 rfl (by decide) (.slice d 0 dcap) ([]).length (intCells ([])) rfl hoa ⟨w20.heap.size, 0, none⟩ 2 2 [.int .i64 (-9223372036854775808), .int .i64 9223372036854775807] rfl rfl hnew (by simp [Value.oneCell']) (by unfold maxLen; omega) (by omega) (by simp; omega) ?_; intro v6 w6 ho6 hg6 _; have D22 := D21.own hoa hg6; obtain ⟨⟨e0', e1', e2', e3', e4'⟩, ef'⟩ := D22.pa.cells; obtain ⟨⟨f0', f1', f2', f3', f4'⟩, ff'⟩ := D22.res.cells)
          obtain ⟨d6, dg6, dcap6, rfl, hI6, hdg6⟩ := ints_owned (zs := ([]) ++ [-9223372036854775808, 9223372036854775807]) (by simpa [intCells] using ho6)
          refine bodyPost_ret (v := .tuple #[.agg #[.int .i64 q, .int .i64 s, .slice a l.length cap, .int .i64 fr, .int .i64 b], .slice d6 (([]) ++ [-9223372036854775808, 9223372036854775807]).length dcap6]) (by simp [results, Try.results6, go_sem, *]) rfl ?_
          exact D22.post (by simp <;> omega) hI6 (fun h => by have := owns_base ho6 dg6 (hdg6 h); omega)
        · have m1' : (m20 == 1) = false := beq_eq_false_iff_ne.2 m1
          obtain ⟨d6, dg6, dcap6, hv6, hI6, hdg6⟩ := ints_owned ho20
          cases hv6
          go_wp2
          refine bodyPost_ret (v := .tuple #[.agg #[.int .i64 q, .int .i64 s, .slice a l.length cap, .int .i64 fr, .int .i64 b], .slice d 0 dcap]) (by simp [results, Try.results6, go_sem, *]) rfl ?_
          exact D20.post (by first | omega | simp) hI6 (fun h => by have := owns_base ho20 dg6 (hdg6 h); omega)
    · have k0 : (0 : Int) < (zs.length : Int) := by omega
      go_wp2_with fail
      refine (pick_any (w.heap.size + 1) R p3 2 _ D4.rd.rd (by omega)).mono ?_
      rintro e w4 ⟨rfl, r4, g4, s4⟩
      have D5 := D4.more r4 g4
      have ho5 := owns_grown ho3 g4 (fun k e => by cases e; have := D4.base; omega)
      clear r4 g4 s4 ho3 hI3 D4
      generalize pickV R p3 2 = m
      by_cases hm : m = 0
      · subst hm
        obtain ⟨g, gcap, hgv, hg1, hg2⟩ := owns_some ho5 (by omega)
        cases hgv
        go_wp2_with fail
        refine (pick_any (w.heap.size + 1) R (p3 + 1) (zs.length : Int) _ D5.rd.rd (by omega)).mono ?_
        rintro e w5 ⟨rfl, r5, g5, s5⟩
        have D6 := D5.more r5 g5
        have ho6 := owns_grown ho5 g5 (fun k e => by cases e; have := D5.base; omega)
        obtain ⟨kn, hkn⟩ : ∃ kn : Nat, pickV R (p3 + 1) (zs.length : Int) = (kn : Int) := Int.eq_ofNat_of_zero_le (pickV_range D5.rd.rd.rng (by omega) (by omega)).1
        have hk := (pickV_range (n := (zs.length : Int)) D5.rd.rd.rng (show p3 + 1 ≤ 1000000000 by omega) (by omega)).2
        rw [hkn] at hk ⊢
        clear hkn D5 r5 g5 s5 ho5
        have kk0 : (0 : Int) ≤ (kn : Int) := by omega
        have hkl : kn < zs.length := by omega
        obtain ⟨z, hzk⟩ : ∃ z, zs[kn]? = some z := ⟨_, List.getElem?_eq_getElem hkl⟩
        have x0 := (ho6.cellAt kn (by omega)).trans (intCells_get zs kn z hzk)
        have hgB : g ≠ w.heap.size + 1 := by have := D6.base; omega
        have hgl : g < w5.heap.size := owns_lt ho6 g rfl
        clear hzk
        go_wp2
        have qn := ClsR.any w5 (w.heap.size + 1)
        have q0 : ∀ u : ClsR w5 (w.heap.size + 1), u.it.cell? ⟨g, kn, none⟩ = some (.int .i64 z) := fun u => (ClsR.cell hgl hgB u _).trans x0
        refine region_picks 7 11 _ _ D6.rd.rd (by kernel_rfl) (by kernel_rfl) (by decide) (by decide) rfl rfl rfl (by kernel_rfl) ?_
        refine pc_quiet 7 rfl (by omega) ?_
        simp only [List.take_succ_cons, List.take_zero]
        repeat (go_big_quiet_step (fail))
        refine wpQuiet_nil ?_
        simp only [List.drop_succ_cons, List.drop_zero]
        refine pc_pick (by omega) rfl 5 (fun W' => by go_simp) ?_
        generalize pickV R (p3 + 1 + 1) 5 = z0
        simp only [Act.put, List.setIfInBounds_toArray, List.set_cons_succ, List.set_cons_zero]
        refine pc_quiet 3 rfl (by omega) ?_
        simp only [List.take_succ_cons, List.take_zero]
        repeat (go_big_quiet_step (fail))
        refine wpQuiet_nil ?_
        refine wpMoves_nil ?_
        intro w6 g6 s6 r6
        have D7 := D6.more r6 g6
        have ho7 := owns_grown ho6 g6 (fun k e => by cases e; have := D6.base; omega)
        clear q0 qn x0 D6 ho6 r6 g6 s6
        refine any_end1 (N := 11) _ rfl (by kernel_rfl) (by kernel_rfl) rfl rfl ?_
        generalize wrap64 (wrap64 (z + z0) - 2) = zn
        obtain ⟨u0, hc⟩ := some_get2 (ho7.cellAt kn (by omega)) ho7.1 (by omega)
        have hf := ho7.frozenAt
        have ho8 := owns_put ho7 (j := kn) (by omega) (.int .i64 zn)
        have D8 := D7.own ho7 (w' := w6.setCell ⟨g, kn, none⟩ (.int .i64 zn)) (grown_set w6 ⟨g, kn, none⟩ (.int .i64 zn))
        have hcs : (intCells zs).set kn (.int .i64 zn) = intCells (zs.set kn zn) := by simp [intCells, List.map_set]
        rw [hcs] at ho8
        have ho9 : (w6.setCell ⟨g, kn, none⟩ (.int .i64 zn)).ownsRow w1.heap.size 3 1 (.slice (some ⟨g, 0, none⟩) zs.length dcap) (zs.set kn zn).length (intCells (zs.set kn zn)) := by rw [List.length_set]; exact ho8
        clear hcs ho8 ho7 D7
        unfold Oper.wp
        go_simp
        clear hc hf
        generalize w6.setCell ⟨g, kn, none⟩ (.int .i64 zn) = w7 at *
        have hzl2 : (zs.set kn zn).length ≤ 43 := by rw [List.length_set]; exact hzl
        have hzz : zs.length = (zs.set kn zn).length := by rw [List.length_set]
        rw [hzz] at ho9 ⊢
        generalize zs.set kn zn = ys at *
        clear hzz
        go_wp2_with fail
        refine (pick_any (w.heap.size + 1) R (p3 + 1 + 1 + 1) 16 _ D8.rd.rd (by omega)).mono ?_
        rintro e w20 ⟨rfl, r20, g20, s20⟩
        have D20 := D8.more r20 g20
        have ho20 := owns_grown ho9 g20 (fun k e => by cases e; have := D8.base; omega)
        clear r20 g20 s20 ho9 D8
        generalize pickV R (p3 + 1 + 1 + 1) 16 = m20
        obtain ⟨⟨e0, e1, e2, e3, e4⟩, ef⟩ := D20.pa.cells
        obtain ⟨⟨f0, f1, f2, f3, f4⟩, ff⟩ := D20.res.cells
        have hXw : X ≠ w.heap.size := by have := D20.ge; have := D20.base; omega
        have hb20 := D20.base
        have hs20 := D20.rd.size
        by_cases m0 : m20 = 0
        · subst m0
          have hnew := one_new w20 (.int .i64 1) 3
          have hoa := owns_below ho20 ((Below.refl _ _).alloc (Nat.le_refl _) (.cells #[.int .i64 1] 3))
          have D21 := D20.alloc (.cells #[.int .i64 1] 3)
          go_wp2_with (at_builtin; refine wpList_append_own _ rfl (.tmp 49) (.tmp 50) 28 rfl w1.heap.size 3 i0 (.int .i64 0) 1 8 Try.underlying28 hinf hz0 hz1 hz2 rfl (by decide) (.slice (some ⟨g, 0, none⟩) ys.length dcap) (ys).length (intCells (ys)) rfl hoa ⟨w20.heap.size, 0, none⟩ 1 1 [.int .i64 1] rfl rfl hnew (by simp [Value.oneCell']) (by unfold maxLen; omega) (by omega) (by simp; omega) ?_; intro v6 w6 ho6 hg6 _; rw [← intCells_snoc] at ho6; have D22 := D21.own hoa hg6; obtain ⟨⟨e0', e1', e2', e3', e4'⟩, ef'⟩ := D22.pa.cells; obtain ⟨⟨f0', f1', f2', f3', f4'⟩, ff'⟩ := D22.res.cells)
          obtain ⟨d6, dg6, dcap6, rfl, hI6, hdg6⟩ := ints_owned (zs := (ys) ++ [1]) (by simpa using ho6)
          refine bodyPost_ret (v := .tuple #[.agg #[.int .i64 q, .int .i64 s, .slice a l.length cap, .int .i64 fr, .int .i64 b], .slice d6 ((ys) ++ [1]).length dcap6]) (by simp [results, Try.results6, go_sem, *]) rfl ?_
          exact D22.post (by simp <;> omega) hI6 (fun h => by have := owns_base ho6 dg6 (hdg6 h); omega)
        · have m0' : (m20 == 0) = false := beq_eq_false_iff_ne.2 m0
          by_cases m1 : m20 = 1
          · subst m1
            clear m0 m0'
            have hnew := two_new w20 (.int .i64 (-9223372036854775808)) (.int .i64 9223372036854775807) 3
            have hoa := owns_below ho20 ((Below.refl _ _).alloc (Nat.le_refl _) (.cells #[.int .i64 (-9223372036854775808), .int .i64 9223372036854775807] 3))
            have D21 := D20.alloc (.cells #[.int .i64 (-9223372036854775808), .int .i64 9223372036854775807] 3)
            go_wp2_with (at_builtin; refine wpList_append_own _ rfl (.tmp 54) (.tmp 55) 28 rfl w1.heap.size 3 i0 (.int .i64 0) 1 8 Try.underlying28 hinf hz0 hz1 hz2 rfl (by decide) (.slice (some ⟨g, 0, none⟩) ys.length dcap) (ys).length (intCells (ys)) rfl hoa ⟨w20.heap.size, 0, none⟩ 2 2 [.int .i64 (-9223372036854775808), .int .i64 9223372036854775807] rfl rfl hnew (by simp [Value.oneCell']) (by unfold maxLen; omega) (by omega) (by simp; omega) ?_; intro v6 w6 ho6 hg6 _; have D22 := D21.own hoa hg6; obtain ⟨⟨e0', e1', e2', e3', e4'⟩, ef'⟩ := D22.pa.cells; obtain ⟨⟨f0', f1', f2', f3', f4'⟩, ff'⟩ := D22.res.cells)
            obtain ⟨d6, dg6, dcap6, rfl, hI6, hdg6⟩ := ints_owned (zs := (ys) ++ [-9223372036854775808, 9223372036854775807]) (by simpa [intCells] using ho6)
            refine bodyPost_ret (v := .tuple #[.agg #[.int .i64 q, .int .i64 s, .slice a l.length cap, .int .i64 fr, .int .i64 b], .slice d6 ((ys) ++ [-9223372036854775808, 9223372036854775807]).length dcap6]) (by simp [results, Try.results6, go_sem, *]) rfl ?_
            exact D22.post (by simp <;> omega) hI6 (fun h => by have := owns_base ho6 dg6 (hdg6 h); omega)
          · have m1' : (m20 == 1) = false := beq_eq_false_iff_ne.2 m1
            obtain ⟨d6, dg6, dcap6, hv6, hI6, hdg6⟩ := ints_owned ho20
            cases hv6
            go_wp2
            refine bodyPost_ret (v := .tuple #[.agg #[.int .i64 q, .int .i64 s, .slice a l.length cap, .int .i64 fr, .int .i64 b], .slice (some ⟨g, 0, none⟩) ys.length dcap]) (by simp [results, Try.results6, go_sem, *]) rfl ?_
            exact D20.post (by first | omega | simp) hI6 (fun h => by have := owns_base ho20 dg6 (hdg6 h); omega)
      · have hm' : (m == 0) = false := beq_eq_false_iff_ne.2 hm
        go_wp2_with fail
        refine (pick_any (w.heap.size + 1) R (p3 + 1) 16 _ D5.rd.rd (by omega)).mono ?_
        rintro e w20 ⟨rfl, r20, g20, s20⟩
        have D20 := D5.more r20 g20
        have ho20 := owns_grown ho5 g20 (fun k e => by cases e; have := D5.base; omega)
        clear r20 g20 s20 ho5 D5
        generalize pickV R (p3 + 1) 16 = m20
        obtain ⟨⟨e0, e1, e2, e3, e4⟩, ef⟩ := D20.pa.cells
        obtain ⟨⟨f0, f1, f2, f3, f4⟩, ff⟩ := D20.res.cells
        have hXw : X ≠ w.heap.size := by have := D20.ge; have := D20.base; omega
        have hb20 := D20.base
        have hs20 := D20.rd.size
        by_cases m0 : m20 = 0
        · subst m0
          have hnew := one_new w20 (.int .i64 1) 3
          have hoa := owns_below ho20 ((Below.refl _ _).alloc (Nat.le_refl _) (.cells #[.int .i64 1] 3))
          have D21 := D20.alloc (.cells #[.int .i64 1] 3)
          go_wp2_with (at_builtin; refine wpList_append_own _ rfl (.tmp 49) (.tmp 50) 28 rfl w1.heap.size 3 i0 (.int .i64 0) 1 8 Try.underlying28 hinf hz0 hz1 hz2 rfl (by decide) (.slice d zs.length dcap) (zs).length (intCells (zs)) rfl hoa ⟨w20.heap.size, 0, none⟩ 1 1 [.int .i64 1] rfl rfl hnew (by simp [Value.oneCell']) (by unfold maxLen; omega) (by omega) (by simp; omega) ?_; intro v6 w6 ho6 hg6 _; rw [← intCells_snoc] at ho6; have D22 := D21.own hoa hg6; obtain ⟨⟨e0', e1', e2', e3', e4'⟩, ef'⟩ := D22.pa.cells; obtain ⟨⟨f0', f1', f2', f3', f4'⟩, ff'⟩ := D22.res.cells)
          obtain ⟨d6, dg6, dcap6, rfl, hI6, hdg6⟩ := ints_owned (zs := (zs) ++ [1]) (by simpa using ho6)
          refine bodyPost_ret (v := .tuple #[.agg #[.int .i64 q, .int .i64 s, .slice a l.length cap, .int .i64 fr, .int .i64 b], .slice d6 ((zs) ++ [1]).length dcap6]) (by simp [results, Try.results6, go_sem, *]) rfl ?_
          exact D22.post (by simp <;> omega) hI6 (fun h => by have := owns_base ho6 dg6 (hdg6 h); omega)
        · have m0' : (m20 == 0) = false := beq_eq_false_iff_ne.2 m0
          by_cases m1 : m20 = 1
          · subst m1
            clear m0 m0'
            have hnew := two_new w20 (.int .i64 (-9223372036854775808)) (.int .i64 9223372036854775807) 3
            have hoa := owns_below ho20 ((Below.refl _ _).alloc (Nat.le_refl _) (.cells #[.int .i64 (-9223372036854775808), .int .i64 9223372036854775807] 3))
            have D21 := D20.alloc (.cells #[.int .i64 (-9223372036854775808), .int .i64 9223372036854775807] 3)
            go_wp2_with (at_builtin; refine wpList_append_own _ rfl (.tmp 54) (.tmp 55) 28 rfl w1.heap.size 3 i0 (.int .i64 0) 1 8 Try.underlying28 hinf hz0 hz1 hz2 rfl (by decide) (.slice d zs.length dcap) (zs).length (intCells (zs)) rfl hoa ⟨w20.heap.size, 0, none⟩ 2 2 [.int .i64 (-9223372036854775808), .int .i64 9223372036854775807] rfl rfl hnew (by simp [Value.oneCell']) (by unfold maxLen; omega) (by omega) (by simp; omega) ?_; intro v6 w6 ho6 hg6 _; have D22 := D21.own hoa hg6; obtain ⟨⟨e0', e1', e2', e3', e4'⟩, ef'⟩ := D22.pa.cells; obtain ⟨⟨f0', f1', f2', f3', f4'⟩, ff'⟩ := D22.res.cells)
            obtain ⟨d6, dg6, dcap6, rfl, hI6, hdg6⟩ := ints_owned (zs := (zs) ++ [-9223372036854775808, 9223372036854775807]) (by simpa [intCells] using ho6)
            refine bodyPost_ret (v := .tuple #[.agg #[.int .i64 q, .int .i64 s, .slice a l.length cap, .int .i64 fr, .int .i64 b], .slice d6 ((zs) ++ [-9223372036854775808, 9223372036854775807]).length dcap6]) (by simp [results, Try.results6, go_sem, *]) rfl ?_
            exact D22.post (by simp <;> omega) hI6 (fun h => by have := owns_base ho6 dg6 (hdg6 h); omega)
          · have m1' : (m20 == 1) = false := beq_eq_false_iff_ne.2 m1
            obtain ⟨d6, dg6, dcap6, hv6, hI6, hdg6⟩ := ints_owned ho20
            cases hv6
            go_wp2
            refine bodyPost_ret (v := .tuple #[.agg #[.int .i64 q, .int .i64 s, .slice a l.length cap, .int .i64 fr, .int .i64 b], .slice d zs.length dcap]) (by simp [results, Try.results6, go_sem, *]) rfl ?_
            exact D20.post (by first | omega | simp) hI6 (fun h => by have := owns_base ho20 dg6 (hdg6 h); omega)
end Go.Proofs.Ytfjlbgegjjdflaa

namespace Go.Proofs.Ytfjlbgegjjdflaa
open Go.RowKit

theorem PathAt.set5s {W : World} {H : Nat} {q0 s0 fr0 b0 : Int} {v0 : Value} (h : PathAt W H q0 s0 fr0 b0 v0) (q s fr b : Int) (v : Value) :
    PathAt (((((W.setCell ⟨H, 0, none⟩ (.int .i64 q)).setCell ⟨H, 1, none⟩ (.int .i64 s)).setCell ⟨H, 2, none⟩ v).setCell ⟨H, 3, none⟩ (.int .i64 fr)).setCell ⟨H, 4, none⟩ (.int .i64 b)) H q s fr b v := by
  have h1 := h.it
  refine ⟨?_⟩
  simp [World.setCell, Array.getElem?_modify, h1]

theorem ret_spans {W : World} {H : Nat} {q s fr b : Int} {v : Value} (h : PathAt W H q s fr b v) (T : Array Value) (h2 : T[2]? = some (.pointer (some ⟨H, 0, none⟩))) :
    (results Try.f15 T).run Try.prog W = .ok (.agg #[.int .i64 q, .int .i64 s, v, .int .i64 fr, .int .i64 b]) W := by
  obtain ⟨⟨c0, c1, c2, c3, c4⟩, cf⟩ := h.cells
  simp [results, Try.results15, go_sem, h2, c0, c1, c2, c3, c4]

set_option maxRecDepth 20000 in
set_option maxHeartbeats 4000000 in
theorem spans_draw (a0 : Option Addr) (cb co ccap : Nat) (zs0 : List Int) (w : World) (hz : BytesAt w a0 cb co zs0) (hl : zs0.length ≤ 1048576) (hc : zs0.length ≤ ccap) :
    Calls Try.prog 15 #[.slice a0 zs0.length ccap] w fun e w' => ∃ q s fr b a b0 o cap l, e = .returned (.agg #[.int .i64 q, .int .i64 s, .slice a l.length cap, .int .i64 fr, .int .i64 b]) ∧
      l.length ≤ 41 ∧ StepsAt w' a b0 o l ∧ Below w.heap.size w w' := by
  have P0 := PathAt.new w 0 0 0 0 (.slice none 0 0)
  have hz' : BytesAt (w.alloc (.cells #[.int .i64 0, .int .i64 0, .slice none 0 0, .int .i64 0, .int .i64 0] 27)) a0 cb co zs0 := ⟨hz.here, fun h => by have := hz.lt h; simp; omega, fun i z hi => by
    have hne : zs0 ≠ [] := by intro e; rw [e] at hi; simp at hi
    rw [World.cell?_of_block (w := w) (a := ⟨cb, co + i, none⟩) (Below.heap_alloc w _ cb (hz.lt hne))]
    exact hz.cell i z hi, hz.rng⟩
  go_enter Try.func15, Try.ntmps15
  go_wp2_with fail
  refine (open_any a0 cb co ccap zs0 _ hz' hl hc).mono ?_
  rintro e w1 ⟨R, rfl, r1, hb1, s1⟩
  rw [World.size_alloc] at r1 s1
  have P1 := P0.keep hb1 P0.lt
  have B1 : Below w.heap.size w w1 := ((Below.refl _ _).alloc (Nat.le_refl _) _).trans (hb1.mono (by simp))
  clear hb1 P0 hz'
  go_wp2_with fail
  refine (any_draw (w.heap.size + 1) R 0 _ r1 (by omega)).mono ?_
  rintro e w2 ⟨q, s, fr, b, a, b0, o, cap, l, p2, rfl, hl2, hs2, hb0, hp2, R2⟩
  have P2 := P1.grown R2.gr (by simp)
  have B2 : Below w.heap.size w w2 := B1.grown R2.gr (by omega) (fun k e => by cases e; omega)
  have hne : l ≠ [] → w.heap.size ≠ b0 := fun h => by have := hb0 h; omega
  obtain ⟨⟨f0, f1, f2, f3, f4⟩, ff⟩ := P2.cells
  clear P1 B1 r1 R2
  go_wp2
  refine bodyPost_ret (ret_spans (P2.set5s q s fr b _) _ rfl) rfl ⟨q, s, fr, b, a, b0, o, cap, l, rfl, hl2, ?_, ?_⟩
  · iterate 5 (refine StepsAt.grown ?_ (grown_set _ _ _) (fun hl e => hne hl (by cases e; rfl)))
    exact hs2.st
  · iterate 5 (refine Below.setCell ?_ (show w.heap.size ≤ w.heap.size from Nat.le_refl _) _)
    exact B2
end Go.Proofs.Ytfjlbgegjjdflaa

namespace Go.Proofs.Ytfjlbgegjjdflaa
open Go.RowKit

/-- As the laws ask it of the k-th step. -/
def okA (q s : Int) (l : List Stp) (zs : List Int) (k : Nat) : Bool :=
  !decide (zs.getD k 0 < (l.getD k .zero).fr) && !decide ((l.getD k .zero).by_ < zs.getD k 0) && !decide (wrap64 (zs.getD (k + 1) 0 - zs.getD k 0) < q) && ((l.getD k .zero).ho || !decide (s < wrap64 (zs.getD (k + 1) 0 - zs.getD k 0)))
def allowTo (q s : Int) (l : List Stp) (zs : List Int) (k : Nat) : Bool := (List.range k).all (okA q s l zs)
def allowB (q s fr b : Int) (l : List Stp) (zs : List Int) : Bool := decide (zs.length = l.length + 1) && allowTo q s l zs l.length && inB (zs.getD l.length 0) fr b
theorem allowTo_succ {q s : Int} {l : List Stp} {zs : List Int} {k : Nat} (h : allowTo q s l zs k = true) : allowTo q s l zs (k + 1) = okA q s l zs k := by
  unfold allowTo at *; rw [all_succ, h]; simp
theorem allowTo_not {q s : Int} {l : List Stp} {zs : List Int} {k n : Nat} (hk : k < n) (h : okA q s l zs k = false) : allowTo q s l zs n = false := all_not hk h

theorem blk7a {w : World} {S : Nat} {c0 c1 c2 c3 c4 c5 c6 : Value} {t : TypeId} (h : w.heap[S]? = some (.cells #[c0, c1, c2, c3, c4, c5, c6] t (0, 0))) :
    (w.cell? ⟨S, 0, none⟩ = some c0 ∧ w.cell? ⟨S, 1, none⟩ = some c1 ∧ w.cell? ⟨S, 2, none⟩ = some c2 ∧ w.cell? ⟨S, 3, none⟩ = some c3 ∧ w.cell? ⟨S, 4, none⟩ = some c4 ∧ w.cell? ⟨S, 5, none⟩ = some c5 ∧ w.cell? ⟨S, 6, none⟩ = some c6) ∧ ∀ j, w.frozen? ⟨S, j, none⟩ = false := by
  refine ⟨⟨?_, ?_, ?_, ?_, ?_, ?_, ?_⟩, fun j => ?_⟩ <;> simp [World.cell?, World.frozen?, h]

set_option maxRecDepth 20000 in
set_option maxHeartbeats 4000000 in
theorem allow_any (q s fr b : Int) (a : Option Addr) (b0 o cap : Nat) (l : List Stp) (c : Option Addr) (cb co ccap : Nat) (zs : List Int) (w : World) (hl : l.length ≤ 1048576) (hm : zs.length ≤ 1048576) (hs : StepsAt w a b0 o l) (hz : IntsAt w c cb co zs) :
    Calls Try.prog 14 #[.agg #[.int .i64 q, .int .i64 s, .slice a l.length cap, .int .i64 fr, .int .i64 b], .slice c zs.length ccap] w fun e w' => e = .returned (.bool (allowB q s fr b l zs)) ∧ Below w.heap.size w w' := by
  have Q0 := PathAt.new w q s fr b (.slice a l.length cap)
  have B0 := (Below.refl w.heap.size w).alloc (Nat.le_refl _) (.cells #[.int .i64 q, .int .i64 s, .slice a l.length cap, .int .i64 fr, .int .i64 b] 27)
  by_cases hlen : zs.length = l.length + 1
  · have hne : ((zs.length : Int) != (l.length : Int) + 1) = false := by simp; omega
    have hzn : zs ≠ [] := by intro e; rw [e] at hlen; simp at hlen
    obtain rfl := hz.here hzn
    have HA : Hid (allowB q s fr b l zs = (allowTo q s l zs l.length && inB (zs.getD l.length 0) fr b)) := by show _ = _; unfold allowB; rw [decide_eq_true hlen]; rfl
    go_enter Try.func14, Try.ntmps14
    go_wp2
    go_loopw [6] (fun s6 wr => ∃ k : Nat, s6 = .int .i64 (k : Int) ∧ k ≤ l.length ∧ Below w.heap.size w wr ∧ PathAt wr w.heap.size q s fr b (.slice a l.length cap) ∧ allowTo q s l zs k = true) (fun s6 _ => l.length - (intOf s6).toNat)
    case atStart => exact ⟨0, rfl, by omega, B0, Q0, rfl⟩
    case round =>
      obtain ⟨k, rfl, hk, B1, Q1, hgood⟩ := hrel
      have HG : Hid (allowTo q s l zs k = true) := hgood
      clear Q0 B0 hgood
      obtain ⟨⟨e0, e1, e2, e3, e4⟩, ef⟩ := Q1.cells
      have hlw := Q1.lt
      by_cases hlt : k < l.length
      · obtain ⟨t, ht⟩ : ∃ t, l[k]? = some t := ⟨_, List.getElem?_eq_getElem hlt⟩
        have hln : l ≠ [] := by intro e; rw [e] at hlt; simp at hlt
        obtain rfl := hs.here hln
        have hs2 := hs.below B1 hs.lt
        obtain ⟨x0, x1, x2, x3, x4, x5, x6⟩ := hs2.seven ht
        have hd : l.getD k .zero = t := by rw [List.getD_eq_getElem?_getD, ht]; rfl
        obtain ⟨z, hzk⟩ : ∃ z, zs[k]? = some z := ⟨_, List.getElem?_eq_getElem (by omega)⟩
        obtain ⟨z', hzk'⟩ : ∃ z, zs[k + 1]? = some z := ⟨_, List.getElem?_eq_getElem (by omega)⟩
        have hzd : zs.getD k 0 = z := by rw [List.getD_eq_getElem?_getD, hzk]; rfl
        have hzd' : zs.getD (k + 1) 0 = z' := by rw [List.getD_eq_getElem?_getD, hzk']; rfl
        have HO : Hid (okA q s l zs k = (!decide (z < t.fr) && !decide (t.by_ < z) && !decide (wrap64 (z' - z) < q) && (t.ho || !decide (s < wrap64 (z' - z))))) := by show _ = _; unfold okA; rw [hd, hzd, hzd']
        have hcl := hz.lt hzn
        have y0 := (B1.cell (p := ⟨cb, co + k, none⟩) hcl).trans (hz.cell k z hzk)
        have y1 := (B1.cell (p := ⟨cb, co + (k + 1), none⟩) hcl).trans (hz.cell (k + 1) z' hzk')
        have k0 : (0 : Int) ≤ (k : Int) := by omega
        have k1 : (k : Int) < (l.length : Int) := by omega
        have k2 : (k : Int) < (zs.length : Int) := by omega
        have k3 : (k : Int) + 1 < (zs.length : Int) := by omega
        have hw1 := B1.size
        clear hd hzd hzd' hzk hzk' ht hs2
        generalize hdd : wrap64 (z' - z) = dz at HO
        go_upto_region 8 with (fail)
        have bS := heap_alloc_new wr (.cells #[.int .i64 t.x, .int .i64 t.y, .int .i64 t.lo, .int .i64 t.hi, .int .i64 t.fr, .int .i64 t.by_, .bool t.ho] 65)
        have hal := (Below.refl wr.heap.size wr).alloc (Nat.le_refl _) (.cells #[.int .i64 t.x, .int .i64 t.y, .int .i64 t.lo, .int .i64 t.hi, .int .i64 t.fr, .int .i64 t.by_, .bool t.ho] 65)
        have B2 := B1.trans (hal.mono hw1)
        have Q2 := Q1.keep hal Q1.lt
        have y0' := (hal.cell (p := ⟨cb, co + k, none⟩) (Nat.lt_of_lt_of_le hcl hw1)).trans y0
        have y1' := (hal.cell (p := ⟨cb, co + (k + 1), none⟩) (Nat.lt_of_lt_of_le hcl hw1)).trans y1
        obtain ⟨⟨c0, c1, c2, c3, c4, c5, c6⟩, cf⟩ := blk7a bS
        clear e0 e1 e2 e3 e4 ef x0 x1 x2 x3 x4 x5 x6 y0 y1 bS Q1 B1 hal
        generalize (wr.alloc (.cells #[.int .i64 t.x, .int .i64 t.y, .int .i64 t.lo, .int .i64 t.hi, .int .i64 t.fr, .int .i64 t.by_, .bool t.ho] 65)) = W at *
        obtain ⟨⟨e0, e1, e2, e3, e4⟩, ef⟩ := Q2.cells
        generalize wr.heap.size = S at *
        by_cases h1 : z < t.fr
        · have HF : Hid (okA q s l zs k = false) := by show _ = _; rw [HO.out]; simp [h1]
          go_quiet (fail)
          go_wp2
          go_ret
          exact ⟨by rw [HA.out, allowTo_not hlt HF.out]; rfl, B2.trans ⟨rfl, rfl, rfl, Nat.le_refl _, fun _ _ => rfl⟩⟩
        · by_cases h2 : t.by_ < z
          · have HF : Hid (okA q s l zs k = false) := by show _ = _; rw [HO.out]; simp [h1, h2]
            go_quiet (fail)
            go_wp2
            go_ret
            exact ⟨by rw [HA.out, allowTo_not hlt HF.out]; rfl, B2.trans ⟨rfl, rfl, rfl, Nat.le_refl _, fun _ _ => rfl⟩⟩
          · by_cases h3 : dz < q
            · have HF : Hid (okA q s l zs k = false) := by show _ = _; rw [HO.out]; simp [h1, h2, h3]
              go_quiet (fail)
              go_wp2
              go_ret
              exact ⟨by rw [HA.out, allowTo_not hlt HF.out]; rfl, B2.trans ⟨rfl, rfl, rfl, Nat.le_refl _, fun _ _ => rfl⟩⟩
            · cases ho : t.ho with
              | true =>
                have HF : Hid (okA q s l zs k = true) := by show _ = _; rw [HO.out]; simp [h1, h2, h3, ho]
                rw [ho] at c6
                go_quiet (fail)
                go_wp2
                go_roundw
                case rel => exact ⟨k + 1, by simp, by omega, B2.trans ⟨rfl, rfl, rfl, Nat.le_refl _, fun _ _ => rfl⟩, ⟨Q2.it⟩, by rw [allowTo_succ HG.out]; exact HF.out⟩
                case measure => simp [intOf]; omega
              | false =>
                rw [ho] at c6
                by_cases h4 : s < dz
                · have HF : Hid (okA q s l zs k = false) := by show _ = _; rw [HO.out]; simp [h1, h2, h3, h4, ho]
                  go_quiet (fail)
                  go_wp2
                  go_ret
                  exact ⟨by rw [HA.out, allowTo_not hlt HF.out]; rfl, B2.trans ⟨rfl, rfl, rfl, Nat.le_refl _, fun _ _ => rfl⟩⟩
                · have HF : Hid (okA q s l zs k = true) := by show _ = _; rw [HO.out]; simp [h1, h2, h3, h4, ho]
                  go_quiet (fail)
                  go_wp2
                  go_roundw
                  case rel => exact ⟨k + 1, by simp, by omega, B2.trans ⟨rfl, rfl, rfl, Nat.le_refl _, fun _ _ => rfl⟩, ⟨Q2.it⟩, by rw [allowTo_succ HG.out]; exact HF.out⟩
                  case measure => simp [intOf]; omega
      · obtain rfl : k = l.length := by omega
        obtain ⟨z, hzk⟩ : ∃ z, zs[l.length]? = some z := ⟨_, List.getElem?_eq_getElem (by omega)⟩
        have hzd : zs.getD l.length 0 = z := by rw [List.getD_eq_getElem?_getD, hzk]; rfl
        have hcl := hz.lt hzn
        have y0 := (B1.cell (p := ⟨cb, co + l.length, none⟩) hcl).trans (hz.cell l.length z hzk)
        have HB : Hid (allowB q s fr b l zs = (decide (fr ≤ z) && decide (z ≤ b))) := by show _ = _; rw [HA.out, HG.out, hzd]; rfl
        have k2 : (l.length : Int) < (zs.length : Int) := by omega
        have k3 : (l.length : Int) < (l.length : Int) + 1 := by omega
        have k0 : (0 : Int) ≤ (l.length : Int) := by omega
        clear hzd hzk
        by_cases h1 : fr ≤ z
        · go_wp2
          go_quiet (fail)
          go_wp2
          go_ret
          exact ⟨by rw [HB.out, decide_eq_true h1]; rfl, B1.trans ⟨rfl, rfl, rfl, Nat.le_refl _, fun _ _ => rfl⟩⟩
        · have h1' : decide (fr ≤ z) = false := decide_eq_false h1
          have h1'' : z < fr := by omega
          go_wp2
          go_quiet (fail)
          go_wp2
          go_ret
          exact ⟨by rw [HB.out, decide_eq_false (by omega)]; rfl, B1.trans ⟨rfl, rfl, rfl, Nat.le_refl _, fun _ _ => rfl⟩⟩
  · have hne : ((zs.length : Int) != (l.length : Int) + 1) = true := by simp; omega
    have HA : Hid (allowB q s fr b l zs = false) := by show _ = _; unfold allowB; rw [decide_eq_false hlen]; rfl
    go_enter Try.func14, Try.ntmps14
    go_wp2
    go_ret
    exact ⟨by rw [HA.out]; rfl, B0⟩
end Go.Proofs.Ytfjlbgegjjdflaa

namespace Go.Proofs.Ytfjlbgegjjdflaa
open Go.RowKit

theorem lawB_keeps {q s fr b : Int} {l : List Stp} (hp : pathB q s fr b l = true) (zs : List Int) : lawB q s fr b l zs = true ↔ zs.length = l.length + 1 ∧ Keeps q s fr b l (fun k => zs.getD k 0) 0 l.length := by
  unfold lawB
  rw [hp, ← ticks_parts]
  simp only [Bool.true_and, Bool.and_eq_true, decide_eq_true_eq, winTo, stayTo, List.all_eq_true, List.mem_range, winS, stayS, inB_iff]
  constructor
  · rintro ⟨h1, h2, h3⟩
    exact ⟨h1, fun k _ hk => h2 k (by omega), fun k _ hk => h3 k hk⟩
  · rintro ⟨h1, h2, h3⟩
    exact ⟨h1, fun k hk => h2 k (by omega) (by omega), fun k hk => h3 k (by omega) hk⟩

theorem allowB_keeps {q s fr b : Int} {l : List Stp} (hp : pathB q s fr b l = true) (zs : List Int) : allowB q s fr b l zs = true ↔ zs.length = l.length + 1 ∧ Keeps q s fr b l (fun k => zs.getD k 0) 0 l.length := by
  unfold allowB allowTo
  simp only [Bool.and_eq_true, decide_eq_true_eq, List.all_eq_true, List.mem_range, inB_iff, okA, Bool.not_eq_true', decide_eq_false_iff_not, Bool.or_eq_true, Int.not_lt]
  have lo : ∀ k, k < l.length → lowB fr l k = (l.getD k .zero).fr ∧ highB b l k = (l.getD k .zero).by_ := fun k hk => by unfold lowB highB; rw [if_pos hk, if_pos hk]; exact ⟨rfl, rfl⟩
  have en : lowB fr l l.length = fr ∧ highB b l l.length = b := by unfold lowB highB; rw [if_neg (by omega), if_neg (by omega)]; exact ⟨rfl, rfl⟩
  constructor
  · rintro ⟨⟨h1, h2⟩, h3⟩
    have win : ∀ k, k ≤ l.length → lowB fr l k ≤ zs.getD k 0 ∧ zs.getD k 0 ≤ highB b l k := fun k hk => by
      rcases Nat.lt_or_ge k l.length with h | h
      · have := h2 k h
        rw [(lo k h).1, (lo k h).2]
        exact ⟨this.1.1.1, this.1.1.2⟩
      · obtain rfl : k = l.length := by omega
        rw [en.1, en.2]
        exact h3
    refine ⟨h1, fun k _ hk => win k hk, fun k _ hk => ?_⟩
    have w1 := win k (by omega)
    have w2 := win (k + 1) (by omega)
    have r1 := bounds_ok hp k
    have r2 := bounds_ok hp (k + 1)
    have hw : wrap64 (zs.getD (k + 1) 0 - zs.getD k 0) = zs.getD (k + 1) 0 - zs.getD k 0 := by unfold wrap64; omega
    have h4 := h2 k hk
    rw [hw] at h4
    refine ⟨h4.1.2, ?_⟩
    unfold mostB
    rcases h4.2 with h | h
    · rw [h]; show zs.getD (k + 1) 0 - zs.getD k 0 ≤ (10000 : Int); omega
    · cases (l.getD k .zero).ho with
      | true => show zs.getD (k + 1) 0 - zs.getD k 0 ≤ (10000 : Int); omega
      | false => exact h
  · rintro ⟨h1, h2, h3⟩
    refine ⟨⟨h1, fun k hk => ?_⟩, ?_⟩
    · have w1 : lowB fr l k ≤ zs.getD k 0 ∧ zs.getD k 0 ≤ highB b l k := h2 k (by omega) (by omega)
      have w2 : lowB fr l (k + 1) ≤ zs.getD (k + 1) 0 ∧ zs.getD (k + 1) 0 ≤ highB b l (k + 1) := h2 (k + 1) (by omega) (by omega)
      have r1 := bounds_ok hp k
      have r2 := bounds_ok hp (k + 1)
      have w3 := h3 k (by omega) hk
      have hw : wrap64 (zs.getD (k + 1) 0 - zs.getD k 0) = zs.getD (k + 1) 0 - zs.getD k 0 := by unfold wrap64; omega
      rw [hw]
      rw [(lo k hk).1, (lo k hk).2] at w1
      refine ⟨⟨⟨w1.1, w1.2⟩, w3.1⟩, ?_⟩
      have h4 := w3.2
      unfold mostB at h4
      cases ho : (l.getD k .zero).ho with
      | true => exact .inl rfl
      | false => rw [ho] at h4; exact .inr h4
    · have := h2 l.length (by omega) (by omega)
      rw [en.1, en.2] at this
      exact this
theorem allow_law {q s fr b : Int} {l : List Stp} (hp : pathB q s fr b l = true) (zs : List Int) : allowB q s fr b l zs = lawB q s fr b l zs := by
  rw [Bool.eq_iff_iff, allowB_keeps hp, lawB_keeps hp]

theorem flyL_at {q s fr b : Int} {l : List Stp} (h : flyB q s fr b l = true) : pathB q s fr b l = true ∧ fwdTo q s fr b l (l.length + 1) = true ∧ flyL q s fr b l = (List.range (l.length + 1)).map fun k => spanAt q s fr b l l.length k := by
  unfold flyB at h
  rw [Bool.and_eq_true] at h
  refine ⟨h.1, by rw [← span_fwd h.1]; exact h.2, ?_⟩
  unfold flyL
  rw [if_pos h.1]
  unfold spansL
  rw [if_pos h.2]
  rfl

/-- The earliest of all ticks make a flight. -/
theorem first_keeps {q s fr b : Int} {l : List Stp} (hm : ∀ k, q ≤ mostB s l k) {n : Nat} (hf : fwdTo q s fr b l (n + 1) = true) : Keeps q s fr b l (fun k => (spanAt q s fr b l n k).1) 0 n := by
  refine ⟨fun k _ hk => span_win hm hf hk ⟨Int.le_refl _, span_some hm hf⟩, fun k _ hk => ?_⟩
  obtain ⟨u, hu, hu1, hu2⟩ := span_next hm hf hk (t := (spanAt q s fr b l n k).1) ⟨Int.le_refl _, span_some hm hf⟩
  obtain ⟨z, hz, hzk⟩ := (span_iff hm hf (show k + 1 ≤ n by omega) (spanAt q s fr b l n (k + 1)).1).1 ⟨Int.le_refl _, span_some hm hf⟩
  have h1 := (span_iff hm hf (show k ≤ n by omega) (z k)).2 ⟨z, hz, rfl⟩
  have h2 := hz.2 k (by omega) hk
  rw [hzk] at h2
  have h3 := hu.1
  have h4 := h1.1
  constructor
  · show q ≤ (spanAt q s fr b l n (k + 1)).1 - (spanAt q s fr b l n k).1
    omega
  · show (spanAt q s fr b l n (k + 1)).1 - (spanAt q s fr b l n k).1 ≤ _
    omega
/-- The latest, too. -/
theorem last_keeps {q s fr b : Int} {l : List Stp} (hm : ∀ k, q ≤ mostB s l k) {n : Nat} (hf : fwdTo q s fr b l (n + 1) = true) : Keeps q s fr b l (fun k => (spanAt q s fr b l n k).2) 0 n := by
  refine ⟨fun k _ hk => span_win hm hf hk ⟨span_some hm hf, Int.le_refl _⟩, fun k _ hk => ?_⟩
  obtain ⟨u, hu, hu1, hu2⟩ := span_next hm hf hk (t := (spanAt q s fr b l n k).2) ⟨span_some hm hf, Int.le_refl _⟩
  obtain ⟨z, hz, hzk⟩ := (span_iff hm hf (show k + 1 ≤ n by omega) (spanAt q s fr b l n (k + 1)).2).1 ⟨span_some hm hf, Int.le_refl _⟩
  have h1 := (span_iff hm hf (show k ≤ n by omega) (z k)).2 ⟨z, hz, rfl⟩
  have h2 := hz.2 k (by omega) hk
  rw [hzk] at h2
  have h3 := hu.2
  have h4 := h1.2
  constructor
  · show q ≤ (spanAt q s fr b l n (k + 1)).2 - (spanAt q s fr b l n k).2
    omega
  · show (spanAt q s fr b l n (k + 1)).2 - (spanAt q s fr b l n k).2 ≤ _
    omega

theorem keeps_congr {q s fr b : Int} {l : List Stp} {z z' : Nat → Int} {n : Nat} (h : Keeps q s fr b l z 0 n) (he : ∀ k, k ≤ n → z' k = z k) : Keeps q s fr b l z' 0 n :=
  ⟨fun k h1 h2 => by rw [he k h2]; exact h.1 k h1 h2, fun k h1 h2 => by rw [he k (by omega), he (k + 1) (by omega)]; exact h.2 k h1 h2⟩
theorem map_at {q s fr b : Int} {l : List Stp} (h : flyB q s fr b l = true) {k : Nat} (hk : k ≤ l.length) : (flyL q s fr b l)[k]? = some (spanAt q s fr b l l.length k) := by
  rw [(flyL_at h).2.2]
  simp [show k < l.length + 1 by omega]
theorem map_len {q s fr b : Int} {l : List Stp} (h : flyB q s fr b l = true) : (flyL q s fr b l).length = l.length + 1 := by
  rw [(flyL_at h).2.2]
  simp
theorem first_allow {q s fr b : Int} {l : List Stp} (h : flyB q s fr b l = true) : allowB q s fr b l ((flyL q s fr b l).map (·.1)) = true := by
  obtain ⟨hp, hf, _⟩ := flyL_at h
  rw [allowB_keeps hp]
  refine ⟨by rw [List.length_map, map_len h], keeps_congr (first_keeps (most_quick hp) hf) (fun k hk => ?_)⟩
  rw [List.getD_eq_getElem?_getD, List.getElem?_map, map_at h hk]
  rfl
theorem last_allow {q s fr b : Int} {l : List Stp} (h : flyB q s fr b l = true) : allowB q s fr b l ((flyL q s fr b l).map (·.2)) = true := by
  obtain ⟨hp, hf, _⟩ := flyL_at h
  rw [allowB_keeps hp]
  refine ⟨by rw [List.length_map, map_len h], keeps_congr (last_keeps (most_quick hp) hf) (fun k hk => ?_)⟩
  rw [List.getD_eq_getElem?_getD, List.getElem?_map, map_at h hk]
  rfl
/-- Each tick of a flight that keeps to the path lies between them. -/
theorem between {q s fr b : Int} {l : List Stp} (h : flyB q s fr b l = true) {zs : List Int} (ha : allowB q s fr b l zs = true) {k : Nat} (hk : k ≤ l.length) : (spanAt q s fr b l l.length k).1 ≤ zs.getD k 0 ∧ zs.getD k 0 ≤ (spanAt q s fr b l l.length k).2 := by
  obtain ⟨hp, hf, _⟩ := flyL_at h
  exact (span_iff (most_quick hp) hf hk _).2 ⟨_, ((allowB_keeps hp zs).1 ha).2, rfl⟩
/-- Without a flight none keeps to it. -/
theorem no_flight {q s fr b : Int} {l : List Stp} (h : flyB q s fr b l = false) (zs : List Int) : lawB q s fr b l zs = false := by
  cases e : lawB q s fr b l zs with
  | false => rfl
  | true =>
    exfalso
    have hp : pathB q s fr b l = true := by unfold lawB at e; simp only [Bool.and_eq_true] at e; exact e.1.1
    have hk := ((lawB_keeps hp zs).1 e).2
    have hf := (fly_iff (most_quick hp) l.length).2 ⟨_, hk⟩
    unfold flyB at h
    rw [hp, span_fwd hp, hf] at h
    cases h
theorem no_list {q s fr b : Int} {l : List Stp} (h : flyB q s fr b l = false) : flyL q s fr b l = [] := by
  unfold flyB at h
  unfold flyL
  split
  · rename_i hp
    rw [hp, Bool.true_and] at h
    unfold spansL
    rw [h]
    rfl
  · rfl
end Go.Proofs.Ytfjlbgegjjdflaa

namespace Go.Proofs.Ytfjlbgegjjdflaa
open Go.RowKit

/-- A step whose entry is held. -/
def Stp.held (x : Stp) (lo hi : Int) : Stp := { x with fr := mxB lo x.fr, by_ := mnB hi x.by_ }
def heldF (fr : Int) (l : List Stp) (k : Nat) (lo : Int) : Int := if k < l.length then fr else mxB lo fr
def heldE (b : Int) (l : List Stp) (k : Nat) (hi : Int) : Int := if k < l.length then b else mnB hi b
def heldK (l : List Stp) (k : Nat) (lo hi : Int) : List Stp := l.set k ((l.getD k .zero).held lo hi)
theorem heldK_length (l : List Stp) (k : Nat) (lo hi : Int) : (heldK l k lo hi).length = l.length := by simp [heldK]
theorem heldK_getD (l : List Stp) (k : Nat) (lo hi : Int) (j : Nat) : (heldK l k lo hi).getD j .zero = if k = j ∧ j < l.length then (l.getD j .zero).held lo hi else l.getD j .zero := by
  unfold heldK
  simp only [List.getD_eq_getElem?_getD, List.getElem?_set]
  by_cases e : k = j
  · subst e
    by_cases h : k < l.length
    · simp [h]
    · simp [h]
  · simp [e]
theorem heldK_same (l : List Stp) (k : Nat) (lo hi : Int) (j : Nat) : ((heldK l k lo hi).getD j .zero).x = (l.getD j .zero).x ∧ ((heldK l k lo hi).getD j .zero).y = (l.getD j .zero).y ∧ ((heldK l k lo hi).getD j .zero).lo = (l.getD j .zero).lo ∧
    ((heldK l k lo hi).getD j .zero).hi = (l.getD j .zero).hi ∧ ((heldK l k lo hi).getD j .zero).ho = (l.getD j .zero).ho := by
  rw [heldK_getD]
  split <;> exact ⟨rfl, rfl, rfl, rfl, rfl⟩

section
variable {q s fr b : Int} {l : List Stp} {k : Nat} {lo hi : Int}

theorem held_low (hk : k ≤ l.length) (j : Nat) (hj : j ≤ l.length) : lowB (heldF fr l k lo) (heldK l k lo hi) j = if j = k then mxB lo (lowB fr l j) else lowB fr l j := by
  unfold lowB
  rw [heldK_length, heldK_getD]
  unfold heldF
  by_cases h : j < l.length
  · rw [if_pos h, if_pos h]
    by_cases e : k = j
    · rw [if_pos ⟨e, h⟩, if_pos e.symm]; rfl
    · rw [if_neg (fun x => e x.1), if_neg (fun x => e x.symm)]
  · rw [if_neg h, if_neg h]
    by_cases e : k = j
    · rw [if_neg (by omega), if_pos e.symm]
    · rw [if_pos (by omega), if_neg (fun x => e x.symm)]
theorem held_high (hk : k ≤ l.length) (j : Nat) (hj : j ≤ l.length) : highB (heldE b l k hi) (heldK l k lo hi) j = if j = k then mnB hi (highB b l j) else highB b l j := by
  unfold highB
  rw [heldK_length, heldK_getD]
  unfold heldE
  by_cases h : j < l.length
  · rw [if_pos h, if_pos h]
    by_cases e : k = j
    · rw [if_pos ⟨e, h⟩, if_pos e.symm]; rfl
    · rw [if_neg (fun x => e x.1), if_neg (fun x => e x.symm)]
  · rw [if_neg h, if_neg h]
    by_cases e : k = j
    · rw [if_neg (by omega), if_pos e.symm]
    · rw [if_pos (by omega), if_neg (fun x => e x.symm)]
theorem held_most (j : Nat) : mostB s (heldK l k lo hi) j = mostB s l j := by
  unfold mostB; rw [(heldK_same l k lo hi j).2.2.2.2]

/-- The flights of the held path are the flights whose tick is held. -/
theorem held1_keeps (hk : k ≤ l.length) (z : Nat → Int) : Keeps q s (heldF fr l k lo) (heldE b l k hi) (heldK l k lo hi) z 0 l.length ↔ Keeps q s fr b l z 0 l.length ∧ lo ≤ z k ∧ z k ≤ hi := by
  constructor
  · rintro ⟨h1, h2⟩
    have w : ∀ j, j ≤ l.length → (lowB fr l j ≤ z j ∧ z j ≤ highB b l j) ∧ (j = k → lo ≤ z k ∧ z k ≤ hi) := by
      intro j hj
      have := h1 j (by omega) hj
      rw [held_low hk j hj, held_high hk j hj] at this
      by_cases e : j = k
      · rw [if_pos e, if_pos e] at this
        have m1 := mxB_le lo (lowB fr l j)
        have m2 := mnB_le hi (highB b l j)
        subst e
        exact ⟨by omega, fun _ => by omega⟩
      · rw [if_neg e, if_neg e] at this
        exact ⟨this, fun h => absurd h e⟩
    refine ⟨⟨fun j _ hj => (w j hj).1, fun j g1 g2 => ?_⟩, (w k hk).2 rfl⟩
    have := h2 j g1 g2
    rwa [held_most] at this
  · rintro ⟨⟨h1, h2⟩, h3⟩
    refine ⟨fun j g1 g2 => ?_, fun j g1 g2 => by rw [held_most]; exact h2 j g1 g2⟩
    have := h1 j g1 g2
    rw [held_low hk j g2, held_high hk j g2]
    by_cases e : j = k
    · rw [if_pos e, if_pos e]
      have m1 := mxB_le lo (lowB fr l j)
      have m2 := mnB_le hi (highB b l j)
      subst e
      omega
    · rw [if_neg e, if_neg e]; exact this

/-- The held path is ok, where its window is not empty. -/
theorem held_path (hp : pathB q s fr b l = true) (_hk : k ≤ l.length) (hw : mxB lo (lowB fr l k) ≤ mnB hi (highB b l k)) : pathB q s (heldF fr l k lo) (heldE b l k hi) (heldK l k lo hi) = true := by
  have hb := bounds_ok hp k
  unfold pathB at hp ⊢
  rw [heldK_length]
  simp only [Bool.and_eq_true, decide_eq_true_eq, inB_iff] at hp ⊢
  obtain ⟨⟨⟨⟨p1, p2⟩, p3⟩, p4⟩, p5⟩ := hp
  have m1 := mxB_le lo (lowB fr l k)
  have m2 := mnB_le hi (highB b l k)
  refine ⟨⟨⟨⟨p1, p2⟩, ?_⟩, ?_⟩, ?_⟩
  · unfold heldF heldE
    by_cases h : k < l.length
    · rw [if_pos h, if_pos h]; exact p3
    · rw [if_neg h, if_neg h]
      have eL : lowB fr l k = fr := if_neg h
      have eH : highB b l k = b := if_neg h
      rw [eL] at hw m1 hb
      rw [eH] at hw m2 hb
      omega
  · unfold heldE
    by_cases h : k < l.length
    · rw [if_pos h]; exact p4
    · rw [if_neg h]
      have := mnB_le hi b
      omega
  · unfold goodTo at p5 ⊢
    simp only [List.all_eq_true, List.mem_range] at p5 ⊢
    intro i hi'
    have g := p5 i hi'
    unfold goodS at g ⊢
    obtain ⟨x1, x2, x3, x4, _⟩ := heldK_same l k lo hi i
    obtain ⟨y1, y2, y3, y4, _⟩ := heldK_same l k lo hi (i - 1)
    rw [x1, x2, x3, x4, y1, y2, y3, y4]
    simp only [Bool.and_eq_true] at g ⊢
    refine ⟨?_, g.2⟩
    have g1 := g.1
    by_cases e : k = i
    · subst e
      rw [heldK_getD, if_pos ⟨rfl, hi'⟩]
      have eL : lowB fr l k = (l.getD k .zero).fr := if_pos hi'
      have eH : highB b l k = (l.getD k .zero).by_ := if_pos hi'
      rw [eL] at hw m1 hb
      rw [eH] at hw m2 hb
      unfold stepB at g1 ⊢
      replace g1 := of_decide_eq_true g1
      refine decide_eq_true ?_
      show _ ∧ _ ∧ _ ∧ _ ∧ _ ∧ _ ∧ _ ∧ 0 ≤ mxB lo (l.getD k .zero).fr ∧ mxB lo (l.getD k .zero).fr ≤ mnB hi (l.getD k .zero).by_ ∧ mnB hi (l.getD k .zero).by_ ≤ 10000
      refine ⟨g1.1, g1.2.1, g1.2.2.1, g1.2.2.2.1, g1.2.2.2.2.1, g1.2.2.2.2.2.1, g1.2.2.2.2.2.2.1, ?_, hw, ?_⟩ <;> omega
    · rw [heldK_getD, if_neg (fun x => e x.1)]
      exact g1

theorem held_fly (hp : pathB q s fr b l = true) (hk : k ≤ l.length) {z : Nat → Int} (hz : Keeps q s fr b l z 0 l.length) (h1 : lo ≤ z k) (h2 : z k ≤ hi) : flyB q s (heldF fr l k lo) (heldE b l k hi) (heldK l k lo hi) = true := by
  have hw := hz.1 k (by omega) hk
  have m1 := mxB_le lo (lowB fr l k)
  have m2 := mnB_le hi (highB b l k)
  have hp' := held_path (lo := lo) (hi := hi) hp hk (by omega)
  unfold flyB
  rw [hp', span_fwd hp', heldK_length, Bool.true_and]
  exact (fly_iff (most_quick hp') l.length).2 ⟨z, (held1_keeps hk z).2 ⟨hz, h1, h2⟩⟩

/-- Each tick of each span is that of some flight. -/
theorem tight_span (h : flyB q s fr b l = true) (hk : k ≤ l.length) {t : Int} (ht : inP t (spanAt q s fr b l l.length k)) : flyB q s (heldF fr l k t) (heldE b l k t) (heldK l k t t) = true := by
  obtain ⟨hp, hf, _⟩ := flyL_at h
  obtain ⟨z, hz, e⟩ := (span_iff (most_quick hp) hf hk t).1 ht
  exact held_fly hp hk hz (by omega) (by omega)

/-- At each tick of each box of the tube some flight is there. -/
theorem tight_here (h : flyB q s fr b l = true) (hk : k < l.length) {t : Int} (h1 : (spanAt q s fr b l l.length k).1 ≤ t) (h2 : t + 1 ≤ (spanAt q s fr b l l.length (k + 1)).2) : ∃ z, Keeps q s fr b l z 0 l.length ∧ z k ≤ t ∧ t + 1 ≤ z (k + 1) := by
  obtain ⟨hp, hf, _⟩ := flyL_at h
  have hm := most_quick hp
  have hq := (kind_range hp).1
  by_cases c : (spanAt q s fr b l l.length k).2 ≤ t
  · exact ⟨_, last_keeps hm hf, c, h2⟩
  · obtain ⟨z, hz, e⟩ := (span_iff hm hf (show k ≤ l.length by omega) t).1 ⟨h1, by omega⟩
    refine ⟨z, hz, by omega, ?_⟩
    have := hz.2 k (by omega) hk
    omega

theorem keeps_mono (hq : 1 ≤ q) {z : Nat → Int} {n : Nat} (h : Keeps q s fr b l z 0 n) : ∀ (d i : Nat), i + d ≤ n → z i ≤ z (i + d)
  | 0, _, _ => Int.le_refl _
  | d + 1, i, hi => by
    have h1 := keeps_mono hq h d i (by omega)
    have h2 := h.2 (i + d) (by omega) (by omega)
    rw [show i + (d + 1) = i + d + 1 by omega]
    omega

/-- The path of the law's second half: the k-th entry by the tick, the next one behind it. -/
theorem tight_first (h : flyB q s fr b l = true) (hk : k < l.length) {t : Int} (_h0 : 0 ≤ t) (h1 : (spanAt q s fr b l l.length k).1 ≤ t) (h2 : t + 1 ≤ (spanAt q s fr b l l.length (k + 1)).2) :
    ∃ F : List Int, (flyL q s (heldF (heldF fr l k 0) (heldK l k 0 t) (k + 1) (t + 1)) (heldE (heldE b l k t) (heldK l k 0 t) (k + 1) 10000) (heldK (heldK l k 0 t) (k + 1) (t + 1) 10000)).map (·.1) = F ∧
      F.length = l.length + 1 ∧ allowB q s fr b l F = true ∧ (∀ j, j < k → F.getD (j + 1) 0 ≤ t) ∧ F.getD k 0 ≤ t ∧ t < F.getD (k + 1) 0 ∧ ∀ j, 0 ≤ F.getD j 0 ∧ F.getD j 0 ≤ 10000 := by
  obtain ⟨hp, hf, _⟩ := flyL_at h
  have hq := (kind_range hp).1
  obtain ⟨z, hz, g1, g2⟩ := tight_here h hk h1 h2
  have r : ∀ j, j ≤ l.length → 0 ≤ z j ∧ z j ≤ 10000 := fun j hj => by
    have := hz.1 j (by omega) hj
    have := bounds_ok hp j
    omega
  have f1 := held_fly (lo := 0) (hi := t) hp (show k ≤ l.length by omega) hz (r k (by omega)).1 g1
  obtain ⟨hp1, _, _⟩ := flyL_at f1
  have hz1 := (held1_keeps (lo := 0) (hi := t) (show k ≤ l.length by omega) z).2 ⟨hz, (r k (by omega)).1, g1⟩
  have e1 := heldK_length l k 0 t
  have hz1' : Keeps q s (heldF fr l k 0) (heldE b l k t) (heldK l k 0 t) z 0 (heldK l k 0 t).length := by rw [e1]; exact hz1
  have hk1 : k + 1 ≤ (heldK l k 0 t).length := by omega
  have f2 := held_fly (lo := t + 1) (hi := 10000) hp1 hk1 hz1' g2 (r (k + 1) (by omega)).2
  refine ⟨_, rfl, ?_, ?_⟩
  · rw [List.length_map, map_len f2, heldK_length, heldK_length]
  have ha := first_allow f2
  obtain ⟨hp2, _, _⟩ := flyL_at f2
  have hl2 : (flyL q s (heldF (heldF fr l k 0) (heldK l k 0 t) (k + 1) (t + 1)) (heldE (heldE b l k t) (heldK l k 0 t) (k + 1) 10000) (heldK (heldK l k 0 t) (k + 1) (t + 1) 10000)).length = l.length + 1 := by rw [map_len f2, heldK_length, heldK_length]
  generalize hF : (flyL q s (heldF (heldF fr l k 0) (heldK l k 0 t) (k + 1) (t + 1)) (heldE (heldE b l k t) (heldK l k 0 t) (k + 1) 10000) (heldK (heldK l k 0 t) (k + 1) (t + 1) 10000)).map (·.1) = F at ha
  have hFl : F.length = l.length + 1 := by rw [← hF, List.length_map, hl2]
  have k2 := ((allowB_keeps hp2 F).1 ha).2
  rw [heldK_length] at k2
  obtain ⟨k1, b1, _⟩ := (held1_keeps hk1 _).1 k2
  rw [e1] at k1
  obtain ⟨k0, _, b0⟩ := (held1_keeps (show k ≤ l.length by omega) _).1 k1
  refine ⟨(allowB_keeps hp F).2 ⟨hFl, k0⟩, fun j hj => ?_, b0, by omega, fun j => ?_⟩
  · have := keeps_mono hq k0 (k - (j + 1)) (j + 1) (by omega)
    rw [show j + 1 + (k - (j + 1)) = k by omega] at this
    exact Int.le_trans this b0
  · rcases Nat.lt_or_ge j (l.length + 1) with hj | hj
    · have w1 := k0.1 j (by omega) (by omega)
      have w2 := bounds_ok hp j
      exact ⟨Int.le_trans w2.1 w1.1, Int.le_trans w1.2 w2.2⟩
    · rw [List.getD_eq_getElem?_getD, List.getElem?_eq_none (by omega)]
      exact ⟨by simp, by simp⟩
end
end Go.Proofs.Ytfjlbgegjjdflaa
