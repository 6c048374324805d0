/- Joined texts: SnDraw, SnRest, SharedData, MayData, BoxData, Grp, TubeL, RsMath. -/
import Derived.WalkKit
import Derived.WalkSpells
import Derived.Laws.StructEq
import Derived.Maps.OwnRows
import Derived.Test.YtijcdikekgmfoaaGreatDoorRows
import Derived.Test.YtijcdikekgmfoaaGreatDoorJ04
import Derived.Test.YtijcdikekgmfoaaGreatDoorData
import Derived.Test.YtijcdikekgmfoaaGreatDoorRestData
import Derived.Test.YtijcdikekgmfoaaGreatDoorSpanMath
namespace Go.Proofs.YtijcdikekgmfoaaGreatDoor
open Go.RowKit

structure SnD (w wr : World) (B : Nat) (R : Rdr) (p X : Nat) (q s fr b : Int) (a : Option Addr) (b0 o cap : Nat) (l : List Stp) : Prop where
  rd : RdW w wr B R p
  res : PathAt wr w.heap.size 0 0 0 0 (.slice none 0 0)
  pa : PathAt wr X q s fr b (.slice a l.length cap)
  ge : w.heap.size < X
  st : StepsIn wr a b0 o l
  b0g : l ≠ [] → w.heap.size < b0
/-- What is drawn. -/
def SeenPost (w : World) (B : Nat) (e : Ending) (w' : World) : Prop :=
  ∃ q s fr b a b0 o cap l k en t, e = .returned (.tuple #[.agg #[.int .i64 q, .int .i64 s, .slice a l.length cap, .int .i64 fr, .int .i64 b], .int .i64 k, .int .i64 en, .int .i64 t]) ∧ l.length ≤ 41 ∧ l.length ≤ cap ∧ StepsAt w' a b0 o l ∧ (l ≠ [] → w.heap.size < b0) ∧ w.grownBy w' (some B)
section
variable {w wr w' : World} {B : Nat} {R : Rdr} {p p' X : Nat} {q s fr b : Int} {a : Option Addr} {b0 o cap : Nat} {l : List Stp}
theorem SnD.more (h : SnD w wr B R p X q s fr b a b0 o cap l) (hr : RdAt w' B R p') (hg : wr.grownBy w' (some B)) : SnD w w' B R p' X q s fr b a b0 o cap l := by
  have h1 := h.rd.lt
  have h2 := h.ge
  exact ⟨h.rd.more hr hg, h.res.grown hg (by simp; omega), h.pa.grown hg (by simp; omega), h.ge, h.st.grown hg (fun hl e => by have := h.b0g hl; cases e; omega), h.b0g⟩
theorem SnD.below (h : SnD w wr B R p X q s fr b a b0 o cap l) (hb : Below wr.heap.size wr w') : SnD w w' B R p X q s fr b a b0 o cap l :=
  ⟨h.rd.below hb, h.res.keep hb h.res.lt, h.pa.keep hb h.pa.lt, h.ge, h.st.below hb, h.b0g⟩
theorem SnD.drew (h : SnD w wr B R p X q s fr b a b0 o cap l) : SnD w wr.drew B R p X q s fr b a b0 o cap l := h.below (Below.refl _ _).drew
theorem SnD.alloc (h : SnD w wr B R p X q s fr b a b0 o cap l) (ob : Obj) : SnD w (wr.alloc ob) B R p X q s fr b a b0 o cap l := h.below ((Below.refl _ _).alloc (Nat.le_refl _) ob)
theorem SnD.post (h : SnD w wr B R p X q s fr b a b0 o cap l) (hc : l.length ≤ cap) (hl : l.length ≤ 41) (k en t : Int) : SeenPost w B (.returned (.tuple #[.agg #[.int .i64 q, .int .i64 s, .slice a l.length cap, .int .i64 fr, .int .i64 b], .int .i64 k, .int .i64 en, .int .i64 t])) (((((wr.setCell ⟨w.heap.size, 0, none⟩ (.int .i64 q)).setCell ⟨w.heap.size, 1, none⟩ (.int .i64 s)).setCell ⟨w.heap.size, 2, none⟩ (.slice a l.length cap)).setCell ⟨w.heap.size, 3, none⟩ (.int .i64 fr)).setCell ⟨w.heap.size, 4, none⟩ (.int .i64 b)) := by
  refine ⟨q, s, fr, b, a, b0, o, cap, l, k, en, t, rfl, hl, hc, ?_, h.b0g, ?_⟩
  · iterate 5 (refine StepsAt.grown ?_ (grown_set _ _ _) (fun hl e => by have h1 := h.b0g hl; have h2 : w.heap.size = b0 := (by simpa using e); omega))
    exact h.st.st
  · have R5 : RdW w (((((wr.setCell ⟨w.heap.size, 0, none⟩ (.int .i64 q)).setCell ⟨w.heap.size, 1, none⟩ (.int .i64 s)).setCell ⟨w.heap.size, 2, none⟩ (.slice a l.length cap)).setCell ⟨w.heap.size, 3, none⟩ (.int .i64 fr)).setCell ⟨w.heap.size, 4, none⟩ (.int .i64 b)) B R p := by
      iterate 5 (refine RdW.set ?_ (Nat.le_refl _) _ _)
      exact h.rd
    exact R5.gr
end

set_option maxRecDepth 20000 in
set_option maxHeartbeats 8000000 in
theorem seen_draw (B : Nat) (R : Rdr) (p : Nat) (w : World) (h : RdAt w B R p) (hp : p ≤ 1000) : Calls Tryz.prog 67 #[.pointer (some ⟨B, 0, none⟩)] w (SeenPost w B) := by
  have hB := lt_of_block h.blk
  have R0 := (RdW.refl h).alloc (.cells #[.int .i64 0, .int .i64 0, .slice none 0 0, .int .i64 0, .int .i64 0] 27)
  have P0 := PathAt.new w 0 0 0 0 (.slice none 0 0)
  go_enter Tryz.func67, Tryz.ntmps67
  go_wp2_with fail
  refine (any_drawC B R p _ R0.rd (by omega)).mono ?_
  rintro e w2 ⟨q, s, fr, b, a, b0, o, cap, l, p2, rfl, hlen, hs2, hb0, hp2, R2', hcap⟩
  have R2 := R0.more R2'.rd R2'.gr
  have P2 := P0.grown R2'.gr (by simp; omega)
  have z2 := P2.lt
  have D3 : SnD w (w2.alloc (.cells #[.int .i64 q, .int .i64 s, .slice a l.length cap, .int .i64 fr, .int .i64 b] 27)) B R p2 w2.heap.size q s fr b a b0 o cap l :=
    ⟨R2.alloc _, P2.keep ((Below.refl _ _).alloc (Nat.le_refl _) _) P2.lt, PathAt.new w2 q s fr b _, z2, hs2.alloc _, fun h => by have := hb0 h; rw [World.size_alloc] at this; omega⟩
  clear R0 P0 R2' R2 P2 hs2 hb0 z2
  go_wp2
  generalize (w2.alloc (.cells #[.int .i64 q, .int .i64 s, .slice a l.length cap, .int .i64 fr, .int .i64 b] 27)) = w3 at *
  generalize w2.heap.size = X at *
  obtain ⟨⟨e0, e1, e2, e3, e4⟩, ef⟩ := D3.pa.cells
  have hXl := D3.pa.lt
  have hp2' : p2 ≤ 6300 := by omega
  go_cut [7, 8] (fun s7 s8 wc => ∃ (v : Value) (az : List Int) (p' : Nat), s7 = v ∧ s8 = .bool (flownB q s fr b l [] az) ∧ wc.ownsRow (w.heap.size + 1) 3 1 v (flownL q s fr b l [] az).length (intCells (flownL q s fr b l [] az)) ∧ p' ≤ 6400 ∧ SnD w wc B R p' X q s fr b a b0 o cap l)
  case first =>
    go_region_held3 (fun w' => w'.cell? ⟨X, 0, none⟩ = some (.int .i64 q) ∧ w'.cell? ⟨X, 1, none⟩ = some (.int .i64 s) ∧ w'.cell? ⟨X, 2, none⟩ = some (.slice a l.length cap) ∧ w'.cell? ⟨X, 3, none⟩ = some (.int .i64 fr) ∧ w'.cell? ⟨X, 4, none⟩ = some (.int .i64 b))
      (simp [go_sem, World.cell?_alloc_lt, *])
      (first
        | (go_at_call 35; refine (asked_draw B R p2 q s fr b a b0 o cap l _ ?_ (by omega) hlen ?_).mono ?_; (first | exact D3.drew.rd.rd | exact (D3.alloc _).drew.rd.rd | exact (D3.drew.alloc _).rd.rd); (first | exact D3.drew.st.st | exact (D3.alloc _).drew.st.st | exact (D3.drew.alloc _).st.st); rintro e w4 ⟨v4, az, p4, rfl, hal, ho4, hp4, R4⟩; have D4 : SnD w w4 B R p4 X q s fr b a b0 o cap l := (by first | exact D3.drew.more R4.rd R4.gr | exact (D3.alloc _).drew.more R4.rd R4.gr | exact (D3.drew.alloc _).more R4.rd R4.gr); obtain ⟨⟨e0', e1', e2', e3', e4'⟩, ef'⟩ := D4.pa.cells; have hX4 := D4.pa.lt; obtain ⟨d, dg, dcap, rfl, hIa, _⟩ := ints_owned ho4)
        | (go_at_call 8; refine (flyGoS_any q s fr b a b0 o cap l _ 0 0 [] d dg 0 dcap az _ (by omega) (by simp) (by omega) ?_ ⟨fun h => absurd rfl h, fun h => absurd rfl h, fun i z hi => by simp at hi⟩ ?_).mono ?_; (first | exact D4.st.st | exact D4.drew.st.st | exact (D4.alloc _).st.st); (first | exact hIa | exact hIa.alloc _); rintro e w5 ⟨v5, rfl, ho5, hb5⟩; have D5 : SnD w w5 B R p4 X q s fr b a b0 o cap l := (by first | exact D4.below hb5 | exact D4.drew.below hb5 | exact (D4.alloc _).below hb5); obtain ⟨⟨e0'', e1'', e2'', e3'', e4''⟩, ef''⟩ := D5.pa.cells))
    all_goals
      go_wp2
      go_meet
      case rel =>
        have hbs := D4.res.lt
        refine ⟨v5, az, p4, rfl, rfl, ?_, by omega, D5⟩
        exact ⟨ho5.1, ho5.2.imp id fun ⟨g, cap, cur, h1, h2, h3⟩ => ⟨g, cap, cur, h1, by first | omega | (simp at h2; omega), h3⟩⟩
  case rest =>
    obtain ⟨v, az, p3, hv, hok, ho3, hp3, D4⟩ := hcut
    clear D3 e0 e1 e2 e3 e4 ef hXl
    subst hv hok
    cases hf : flownB q s fr b l [] az with
    | false =>
      clear ho3
      go_wp2
      refine wp_region_any (by kernel_rfl) ?_
      change wpAny _ _ _ _ _ _ _ (World.drew _)
      have D5 := D4.drew
      refine wpAny_take (i := 1) (v := .pointer (some ⟨B, 0, none⟩)) rfl (by kernel_rfl) (by kernel_rfl) (by kernel_rfl) (fun _ _ _ h => h) (Or.inl ⟨by rfl, fun W => by go_simp⟩) ?_
      refine wpAny_take (i := 4) (v := .pointer (some ⟨B, 0, none⟩)) rfl (by kernel_rfl) (by kernel_rfl) (by kernel_rfl) (fun _ _ _ h => h) (Or.inl ⟨by rfl, fun W => by go_simp⟩) ?_
      refine wpAny_take (i := 6) (v := .pointer (some ⟨B, 0, none⟩)) rfl (by kernel_rfl) (by kernel_rfl) (by kernel_rfl) (fun _ _ _ h => h) (Or.inl ⟨by rfl, fun W => by go_simp⟩) ?_
      refine wpAny_ready (rs := [0, 2]) (by kernel_rfl) (by simp) ?_
      refine AllReady.cons rfl (fun K hK => ?_) ?_
      · obtain ⟨⟨e0, e1, e2, e3, e4⟩, ef⟩ := D5.pa.cells
        go_simp
        clear e0 e1 e2 e3 e4 ef
        refine hK _ _ ?_
        clear hK K
        refine wpAny_ready (rs := [2]) (by kernel_rfl) (by simp) ?_
        refine AllReady.cons rfl (fun K hK => ?_) ?_
        · go_simp
          refine (pick_any B R (p3) 3 _ D5.rd.rd (by omega)).mono ?_
          rintro e u2 ⟨rfl, ra, ga, sa⟩
          have Du2 := D5.more ra ga
          clear ra ga sa
          generalize pickV R (p3) 3 = m1
          refine hK _ _ ?_
          clear hK K
          refine wpAny_take (i := 3) (v := .int .i64 (IntKind.i64.wrap (m1 - 1))) rfl (by kernel_rfl) (by kernel_rfl) (by kernel_rfl) (fun _ _ _ h => h) (Or.inl ⟨by rfl, fun W => by go_simp⟩) ?_
          refine wpAny_ready (rs := [5]) (by kernel_rfl) (by simp) ?_
          refine AllReady.cons rfl (fun K hK => ?_) ?_
          · go_simp
            refine (pick_any B R (p3 + 1) 9 _ Du2.rd.rd (by omega)).mono ?_
            rintro e u5 ⟨rfl, ra, ga, sa⟩
            have Du5 := Du2.more ra ga
            clear ra ga sa
            generalize pickV R (p3 + 1) 9 = m2
            refine hK _ _ ?_
            clear hK K
            refine wpAny_ready (rs := [7]) (by kernel_rfl) (by simp) ?_
            refine AllReady.cons rfl (fun K hK => ?_) ?_
            · go_simp
              refine (pick_any B R (p3 + 1 + 1) 20 _ Du5.rd.rd (by omega)).mono ?_
              rintro e u7 ⟨rfl, ra, ga, sa⟩
              have Du7 := Du5.more ra ga
              clear ra ga sa
              generalize pickV R (p3 + 1 + 1) 20 = m3
              refine hK _ _ ?_
              clear hK K
              refine wpAny_ready (rs := [8]) (by kernel_rfl) (by simp) ?_
              refine AllReady.cons rfl (fun K hK => ?_) ?_
              · obtain ⟨⟨f0, f1, f2, f3, f4⟩, ff⟩ := Du7.res.cells
                go_simp
                clear f0 f1 f2 f3 f4 ff
                refine hK _ _ ?_
                clear hK K
                refine wpAny_take (i := 9) (v := .int .i64 (IntKind.i64.wrap (m1 - 1))) rfl (by kernel_rfl) (by kernel_rfl) (by kernel_rfl) (fun _ _ _ h => h) (Or.inl ⟨by rfl, fun W => by go_simp⟩) ?_
                refine wpAny_take (i := 10) (v := .int .i64 m2) rfl (by kernel_rfl) (by kernel_rfl) (by kernel_rfl) (fun _ _ _ h => h) (Or.inl ⟨by rfl, fun W => by go_simp⟩) ?_
                refine wpAny_take (i := 11) (v := .int .i64 m3) rfl (by kernel_rfl) (by kernel_rfl) (by kernel_rfl) (fun _ _ _ h => h) (Or.inl ⟨by rfl, fun W => by go_simp⟩) ?_
                refine wpAny_done (by kernel_rfl) ?_ _
                go_wp2
                obtain ⟨⟨f0, f1, f2, f3, f4⟩, ff⟩ := Du7.res.cells
                refine bodyPost_ret (v := .tuple #[.agg #[.int .i64 q, .int .i64 s, .slice a l.length cap, .int .i64 fr, .int .i64 b], .int .i64 (IntKind.i64.wrap (m1 - 1)), .int .i64 m2, .int .i64 m3]) (by simp [results, Tryz.results67, go_sem, f0, f1, f2, f3, f4]) rfl ?_
                exact Du7.post hcap hlen _ _ _
              exact AllReady.nil
            exact AllReady.nil
          exact AllReady.nil
        exact AllReady.nil
      refine AllReady.cons rfl (fun K hK => ?_) ?_
      · go_simp
        refine (pick_any B R (p3) 3 _ D5.rd.rd (by omega)).mono ?_
        rintro e u2 ⟨rfl, ra, ga, sa⟩
        have Du2 := D5.more ra ga
        clear ra ga sa
        generalize pickV R (p3) 3 = m1
        refine hK _ _ ?_
        clear hK K
        refine wpAny_take (i := 3) (v := .int .i64 (IntKind.i64.wrap (m1 - 1))) rfl (by kernel_rfl) (by kernel_rfl) (by kernel_rfl) (fun _ _ _ h => h) (Or.inl ⟨by rfl, fun W => by go_simp⟩) ?_
        refine wpAny_ready (rs := [0, 5]) (by kernel_rfl) (by simp) ?_
        refine AllReady.cons rfl (fun K hK => ?_) ?_
        · obtain ⟨⟨e0, e1, e2, e3, e4⟩, ef⟩ := Du2.pa.cells
          go_simp
          clear e0 e1 e2 e3 e4 ef
          refine hK _ _ ?_
          clear hK K
          refine wpAny_ready (rs := [5]) (by kernel_rfl) (by simp) ?_
          refine AllReady.cons rfl (fun K hK => ?_) ?_
          · go_simp
            refine (pick_any B R (p3 + 1) 9 _ Du2.rd.rd (by omega)).mono ?_
            rintro e u5 ⟨rfl, ra, ga, sa⟩
            have Du5 := Du2.more ra ga
            clear ra ga sa
            generalize pickV R (p3 + 1) 9 = m2
            refine hK _ _ ?_
            clear hK K
            refine wpAny_ready (rs := [7]) (by kernel_rfl) (by simp) ?_
            refine AllReady.cons rfl (fun K hK => ?_) ?_
            · go_simp
              refine (pick_any B R (p3 + 1 + 1) 20 _ Du5.rd.rd (by omega)).mono ?_
              rintro e u7 ⟨rfl, ra, ga, sa⟩
              have Du7 := Du5.more ra ga
              clear ra ga sa
              generalize pickV R (p3 + 1 + 1) 20 = m3
              refine hK _ _ ?_
              clear hK K
              refine wpAny_ready (rs := [8]) (by kernel_rfl) (by simp) ?_
              refine AllReady.cons rfl (fun K hK => ?_) ?_
              · obtain ⟨⟨f0, f1, f2, f3, f4⟩, ff⟩ := Du7.res.cells
                go_simp
                clear f0 f1 f2 f3 f4 ff
                refine hK _ _ ?_
                clear hK K
                refine wpAny_take (i := 9) (v := .int .i64 (IntKind.i64.wrap (m1 - 1))) rfl (by kernel_rfl) (by kernel_rfl) (by kernel_rfl) (fun _ _ _ h => h) (Or.inl ⟨by rfl, fun W => by go_simp⟩) ?_
                refine wpAny_take (i := 10) (v := .int .i64 m2) rfl (by kernel_rfl) (by kernel_rfl) (by kernel_rfl) (fun _ _ _ h => h) (Or.inl ⟨by rfl, fun W => by go_simp⟩) ?_
                refine wpAny_take (i := 11) (v := .int .i64 m3) rfl (by kernel_rfl) (by kernel_rfl) (by kernel_rfl) (fun _ _ _ h => h) (Or.inl ⟨by rfl, fun W => by go_simp⟩) ?_
                refine wpAny_done (by kernel_rfl) ?_ _
                go_wp2
                obtain ⟨⟨f0, f1, f2, f3, f4⟩, ff⟩ := Du7.res.cells
                refine bodyPost_ret (v := .tuple #[.agg #[.int .i64 q, .int .i64 s, .slice a l.length cap, .int .i64 fr, .int .i64 b], .int .i64 (IntKind.i64.wrap (m1 - 1)), .int .i64 m2, .int .i64 m3]) (by simp [results, Tryz.results67, go_sem, f0, f1, f2, f3, f4]) rfl ?_
                exact Du7.post hcap hlen _ _ _
              exact AllReady.nil
            exact AllReady.nil
          exact AllReady.nil
        refine AllReady.cons rfl (fun K hK => ?_) ?_
        · go_simp
          refine (pick_any B R (p3 + 1) 9 _ Du2.rd.rd (by omega)).mono ?_
          rintro e u5 ⟨rfl, ra, ga, sa⟩
          have Du5 := Du2.more ra ga
          clear ra ga sa
          generalize pickV R (p3 + 1) 9 = m2
          refine hK _ _ ?_
          clear hK K
          refine wpAny_ready (rs := [0, 7]) (by kernel_rfl) (by simp) ?_
          refine AllReady.cons rfl (fun K hK => ?_) ?_
          · obtain ⟨⟨e0, e1, e2, e3, e4⟩, ef⟩ := Du5.pa.cells
            go_simp
            clear e0 e1 e2 e3 e4 ef
            refine hK _ _ ?_
            clear hK K
            refine wpAny_ready (rs := [7]) (by kernel_rfl) (by simp) ?_
            refine AllReady.cons rfl (fun K hK => ?_) ?_
            · go_simp
              refine (pick_any B R (p3 + 1 + 1) 20 _ Du5.rd.rd (by omega)).mono ?_
              rintro e u7 ⟨rfl, ra, ga, sa⟩
              have Du7 := Du5.more ra ga
              clear ra ga sa
              generalize pickV R (p3 + 1 + 1) 20 = m3
              refine hK _ _ ?_
              clear hK K
              refine wpAny_ready (rs := [8]) (by kernel_rfl) (by simp) ?_
              refine AllReady.cons rfl (fun K hK => ?_) ?_
              · obtain ⟨⟨f0, f1, f2, f3, f4⟩, ff⟩ := Du7.res.cells
                go_simp
                clear f0 f1 f2 f3 f4 ff
                refine hK _ _ ?_
                clear hK K
                refine wpAny_take (i := 9) (v := .int .i64 (IntKind.i64.wrap (m1 - 1))) rfl (by kernel_rfl) (by kernel_rfl) (by kernel_rfl) (fun _ _ _ h => h) (Or.inl ⟨by rfl, fun W => by go_simp⟩) ?_
                refine wpAny_take (i := 10) (v := .int .i64 m2) rfl (by kernel_rfl) (by kernel_rfl) (by kernel_rfl) (fun _ _ _ h => h) (Or.inl ⟨by rfl, fun W => by go_simp⟩) ?_
                refine wpAny_take (i := 11) (v := .int .i64 m3) rfl (by kernel_rfl) (by kernel_rfl) (by kernel_rfl) (fun _ _ _ h => h) (Or.inl ⟨by rfl, fun W => by go_simp⟩) ?_
                refine wpAny_done (by kernel_rfl) ?_ _
                go_wp2
                obtain ⟨⟨f0, f1, f2, f3, f4⟩, ff⟩ := Du7.res.cells
                refine bodyPost_ret (v := .tuple #[.agg #[.int .i64 q, .int .i64 s, .slice a l.length cap, .int .i64 fr, .int .i64 b], .int .i64 (IntKind.i64.wrap (m1 - 1)), .int .i64 m2, .int .i64 m3]) (by simp [results, Tryz.results67, go_sem, f0, f1, f2, f3, f4]) rfl ?_
                exact Du7.post hcap hlen _ _ _
              exact AllReady.nil
            exact AllReady.nil
          refine AllReady.cons rfl (fun K hK => ?_) ?_
          · go_simp
            refine (pick_any B R (p3 + 1 + 1) 20 _ Du5.rd.rd (by omega)).mono ?_
            rintro e u7 ⟨rfl, ra, ga, sa⟩
            have Du7 := Du5.more ra ga
            clear ra ga sa
            generalize pickV R (p3 + 1 + 1) 20 = m3
            refine hK _ _ ?_
            clear hK K
            refine wpAny_ready (rs := [0]) (by kernel_rfl) (by simp) ?_
            refine AllReady.cons rfl (fun K hK => ?_) ?_
            · obtain ⟨⟨e0, e1, e2, e3, e4⟩, ef⟩ := Du7.pa.cells
              go_simp
              clear e0 e1 e2 e3 e4 ef
              refine hK _ _ ?_
              clear hK K
              refine wpAny_ready (rs := [8]) (by kernel_rfl) (by simp) ?_
              refine AllReady.cons rfl (fun K hK => ?_) ?_
              · obtain ⟨⟨f0, f1, f2, f3, f4⟩, ff⟩ := Du7.res.cells
                go_simp
                clear f0 f1 f2 f3 f4 ff
                refine hK _ _ ?_
                clear hK K
                refine wpAny_take (i := 9) (v := .int .i64 (IntKind.i64.wrap (m1 - 1))) rfl (by kernel_rfl) (by kernel_rfl) (by kernel_rfl) (fun _ _ _ h => h) (Or.inl ⟨by rfl, fun W => by go_simp⟩) ?_
                refine wpAny_take (i := 10) (v := .int .i64 m2) rfl (by kernel_rfl) (by kernel_rfl) (by kernel_rfl) (fun _ _ _ h => h) (Or.inl ⟨by rfl, fun W => by go_simp⟩) ?_
                refine wpAny_take (i := 11) (v := .int .i64 m3) rfl (by kernel_rfl) (by kernel_rfl) (by kernel_rfl) (fun _ _ _ h => h) (Or.inl ⟨by rfl, fun W => by go_simp⟩) ?_
                refine wpAny_done (by kernel_rfl) ?_ _
                go_wp2
                obtain ⟨⟨f0, f1, f2, f3, f4⟩, ff⟩ := Du7.res.cells
                refine bodyPost_ret (v := .tuple #[.agg #[.int .i64 q, .int .i64 s, .slice a l.length cap, .int .i64 fr, .int .i64 b], .int .i64 (IntKind.i64.wrap (m1 - 1)), .int .i64 m2, .int .i64 m3]) (by simp [results, Tryz.results67, go_sem, f0, f1, f2, f3, f4]) rfl ?_
                exact Du7.post hcap hlen _ _ _
              exact AllReady.nil
            exact AllReady.nil
          exact AllReady.nil
        exact AllReady.nil
      exact AllReady.nil
    | true =>
      have hlaw : lawB q s fr b l (flownL q s fr b l [] az) = true := by unfold flownL; rw [hf]; exact hf
      have hpa : pathB q s fr b l = true := by unfold lawB at hlaw; simp only [Bool.and_eq_true] at hlaw; exact hlaw.1.1
      have hzl := lawB_length hlaw
      have hl1 := (path_len hpa).1
      generalize flownL q s fr b l [] az = zs at *
      clear hlaw hpa
      obtain ⟨g, dcap, rfl, hg1, hg2⟩ := owns_some ho3 (by omega)
      obtain ⟨⟨e0, e1, e2, e3, e4⟩, ef⟩ := D4.pa.cells
      have k1 : (1 : Int) ≤ (l.length : Int) := by omega
      go_wp2_with fail
      refine (pick_any B R p3 (l.length : Int) _ D4.rd.rd (by omega)).mono ?_
      rintro e w5 ⟨rfl, ra, ga, sa⟩
      obtain ⟨hr1, hr2⟩ := pickV_range (n := (l.length : Int)) D4.rd.rd.rng (show p3 ≤ 1000000000 by omega) (by omega)
      have D5 := D4.more ra ga
      have ho5 := owns_grown ho3 ga (fun k e => by cases e; have := D4.rd.lt; omega)
      clear ra ga sa e0 e1 e2 e3 e4 ef D4 ho3
      obtain ⟨kn, hkn⟩ : ∃ kn : Nat, pickV R p3 (l.length : Int) = (kn : Int) := Int.eq_ofNat_of_zero_le hr1
      rw [hkn] at hr2 ⊢
      clear hkn hr1
      obtain ⟨z0, hz0⟩ : ∃ z, zs[kn]? = some z := ⟨_, List.getElem?_eq_getElem (by omega)⟩
      obtain ⟨z1, hz1⟩ : ∃ z, zs[kn + 1]? = some z := ⟨_, List.getElem?_eq_getElem (by omega)⟩
      have kk0 : (0 : Int) ≤ (kn : Int) := by omega
      have kk1 : (kn : Int) < (zs.length : Int) := by omega
      have kk2 : (0 : Int) ≤ (kn : Int) + 1 := by omega
      have kk3 : (kn : Int) + 1 < (zs.length : Int) := by omega
      have kw : IntKind.i64.wrap ((kn : Int) + 1) = (kn : Int) + 1 := by rw [IntKind.wrap_i64]; omega
      have HZL : Hid (zs.length = l.length + 1) := hzl
      clear hzl
      go_wp2
      go_cut [10] (fun s10 wc => ∃ (tt : Int) (p' : Nat), s10 = .int .i64 tt ∧ p' ≤ 6410 ∧ wc.ownsRow (w.heap.size + 1) 3 1 (.slice (some ⟨g, 0, none⟩) zs.length dcap) zs.length (intCells zs) ∧ SnD w wc B R p' X q s fr b a b0 o cap l)
      case first =>
        refine wp_region_any (by kernel_rfl) ?_
        change wpAny _ _ _ _ _ _ _ (World.drew _)
        have D6 := D5.drew
        have ho6 : w5.drew.ownsRow (w.heap.size + 1) 3 1 (.slice (some ⟨g, 0, none⟩) zs.length dcap) zs.length (intCells zs) := ho5
        refine wpAny_take (i := 0) (v := .slice (some ⟨g, 0, none⟩) zs.length dcap) rfl (by kernel_rfl) (by kernel_rfl) (by kernel_rfl) (fun _ _ _ h => h) (Or.inl ⟨by rfl, fun W => by go_simp⟩) ?_
        refine wpAny_take (i := 1) (v := .int .i64 (kn : Int)) rfl (by kernel_rfl) (by kernel_rfl) (by kernel_rfl) (fun _ _ _ h => h) (Or.inl ⟨by rfl, fun W => by go_simp⟩) ?_
        refine wpAny_take (i := 2) (v := .pointer (some ⟨g, kn, none⟩)) rfl (by kernel_rfl) (by kernel_rfl) (by kernel_rfl) (fun _ _ _ h => h) (Or.inl ⟨by rfl, fun W => by go_simp⟩) ?_
        refine wpAny_take (i := 4) (v := .pointer (some ⟨B, 0, none⟩)) rfl (by kernel_rfl) (by kernel_rfl) (by kernel_rfl) (fun _ _ _ h => h) (Or.inl ⟨by rfl, fun W => by go_simp⟩) ?_
        refine wpAny_take (i := 5) (v := .slice (some ⟨g, 0, none⟩) zs.length dcap) rfl (by kernel_rfl) (by kernel_rfl) (by kernel_rfl) (fun _ _ _ h => h) (Or.inl ⟨by rfl, fun W => by go_simp⟩) ?_
        refine wpAny_take (i := 6) (v := .int .i64 (kn : Int)) rfl (by kernel_rfl) (by kernel_rfl) (by kernel_rfl) (fun _ _ _ h => h) (Or.inl ⟨by rfl, fun W => by go_simp⟩) ?_
        refine wpAny_take (i := 7) (v := .int .i64 ((kn : Int) + 1)) rfl (by kernel_rfl) (by kernel_rfl) (by kernel_rfl) (fun _ _ _ h => h) (Or.inl ⟨by rfl, fun W => by go_simp⟩) ?_
        refine wpAny_take (i := 8) (v := .pointer (some ⟨g, kn + 1, none⟩)) rfl (by kernel_rfl) (by kernel_rfl) (by kernel_rfl) (fun _ _ _ h => h) (Or.inl ⟨by rfl, fun W => by go_simp⟩) ?_
        refine wpAny_take (i := 10) (v := .slice (some ⟨g, 0, none⟩) zs.length dcap) rfl (by kernel_rfl) (by kernel_rfl) (by kernel_rfl) (fun _ _ _ h => h) (Or.inl ⟨by rfl, fun W => by go_simp⟩) ?_
        refine wpAny_take (i := 11) (v := .int .i64 (kn : Int)) rfl (by kernel_rfl) (by kernel_rfl) (by kernel_rfl) (fun _ _ _ h => h) (Or.inl ⟨by rfl, fun W => by go_simp⟩) ?_
        refine wpAny_take (i := 12) (v := .pointer (some ⟨g, kn, none⟩)) rfl (by kernel_rfl) (by kernel_rfl) (by kernel_rfl) (fun _ _ _ h => h) (Or.inl ⟨by rfl, fun W => by go_simp⟩) ?_
        refine wpAny_ready (rs := [3, 9, 13]) (by kernel_rfl) (by simp) ?_
        refine AllReady.cons rfl (fun K hK => ?_) ?_
        · have tk := (ho6.cellAt kn (by omega)).trans (intCells_get zs kn _ hz0)
          go_simp
          clear tk
          refine hK _ _ ?_
          clear hK K
          refine wpAny_ready (rs := [9, 13]) (by kernel_rfl) (by simp) ?_
          refine AllReady.cons rfl (fun K hK => ?_) ?_
          · have tk := (ho6.cellAt (kn + 1) (by omega)).trans (intCells_get zs (kn + 1) _ hz1)
            go_simp
            clear tk
            refine hK _ _ ?_
            clear hK K
            refine wpAny_ready (rs := [13]) (by kernel_rfl) (by simp) ?_
            refine AllReady.cons rfl (fun K hK => ?_) ?_
            · have tk := (ho6.cellAt kn (by omega)).trans (intCells_get zs kn _ hz0)
              go_simp
              clear tk
              refine hK _ _ ?_
              clear hK K
              refine wpAny_take (i := 14) (v := .int .i64 (IntKind.i64.wrap (z1 - z0))) rfl (by kernel_rfl) (by kernel_rfl) (by kernel_rfl) (fun _ _ _ h => h) (Or.inl ⟨by rfl, fun W => by go_simp⟩) ?_
              refine wpAny_ready (rs := [15]) (by kernel_rfl) (by simp) ?_
              refine AllReady.cons rfl (fun K hK => ?_) ?_
              · go_simp
                refine (pick_any B R (p3 + 1) (IntKind.i64.wrap (z1 - z0)) _ D6.rd.rd (by omega)).mono ?_
                rintro e u15 ⟨rfl, ra, ga, sa⟩
                have Du15 := D6.more ra ga
                have hu15 := owns_grown ho6 ga (fun k e => by cases e; have := D6.rd.lt; omega)
                clear ra ga sa
                generalize pickV R (p3 + 1) (IntKind.i64.wrap (z1 - z0)) = m5
                refine hK _ _ ?_
                clear hK K
                refine wpAny_take (i := 16) (v := .int .i64 (IntKind.i64.wrap (z0 + m5))) rfl (by kernel_rfl) (by kernel_rfl) (by kernel_rfl) (fun _ _ _ h => h) (Or.inl ⟨by rfl, fun W => by go_simp⟩) ?_
                refine wpAny_take (i := 17) (v := .int .i64 (IntKind.i64.wrap (z0 + m5))) rfl (by kernel_rfl) (by kernel_rfl) (by kernel_rfl) (fun _ _ _ h => h) (Or.inl ⟨by rfl, fun W => by go_simp⟩) ?_
                refine wpAny_done (by kernel_rfl) ?_ _
                go_wp2
                go_meet
                case rel => exact ⟨_, _, rfl, by omega, hu15, Du15⟩
              exact AllReady.nil
            exact AllReady.nil
          refine AllReady.cons rfl (fun K hK => ?_) ?_
          · have tk := (ho6.cellAt kn (by omega)).trans (intCells_get zs kn _ hz0)
            go_simp
            clear tk
            refine hK _ _ ?_
            clear hK K
            refine wpAny_ready (rs := [9]) (by kernel_rfl) (by simp) ?_
            refine AllReady.cons rfl (fun K hK => ?_) ?_
            · have tk := (ho6.cellAt (kn + 1) (by omega)).trans (intCells_get zs (kn + 1) _ hz1)
              go_simp
              clear tk
              refine hK _ _ ?_
              clear hK K
              refine wpAny_take (i := 14) (v := .int .i64 (IntKind.i64.wrap (z1 - z0))) rfl (by kernel_rfl) (by kernel_rfl) (by kernel_rfl) (fun _ _ _ h => h) (Or.inl ⟨by rfl, fun W => by go_simp⟩) ?_
              refine wpAny_ready (rs := [15]) (by kernel_rfl) (by simp) ?_
              refine AllReady.cons rfl (fun K hK => ?_) ?_
              · go_simp
                refine (pick_any B R (p3 + 1) (IntKind.i64.wrap (z1 - z0)) _ D6.rd.rd (by omega)).mono ?_
                rintro e u15 ⟨rfl, ra, ga, sa⟩
                have Du15 := D6.more ra ga
                have hu15 := owns_grown ho6 ga (fun k e => by cases e; have := D6.rd.lt; omega)
                clear ra ga sa
                generalize pickV R (p3 + 1) (IntKind.i64.wrap (z1 - z0)) = m5
                refine hK _ _ ?_
                clear hK K
                refine wpAny_take (i := 16) (v := .int .i64 (IntKind.i64.wrap (z0 + m5))) rfl (by kernel_rfl) (by kernel_rfl) (by kernel_rfl) (fun _ _ _ h => h) (Or.inl ⟨by rfl, fun W => by go_simp⟩) ?_
                refine wpAny_take (i := 17) (v := .int .i64 (IntKind.i64.wrap (z0 + m5))) rfl (by kernel_rfl) (by kernel_rfl) (by kernel_rfl) (fun _ _ _ h => h) (Or.inl ⟨by rfl, fun W => by go_simp⟩) ?_
                refine wpAny_done (by kernel_rfl) ?_ _
                go_wp2
                go_meet
                case rel => exact ⟨_, _, rfl, by omega, hu15, Du15⟩
              exact AllReady.nil
            exact AllReady.nil
          exact AllReady.nil
        refine AllReady.cons rfl (fun K hK => ?_) ?_
        · have tk := (ho6.cellAt (kn + 1) (by omega)).trans (intCells_get zs (kn + 1) _ hz1)
          go_simp
          clear tk
          refine hK _ _ ?_
          clear hK K
          refine wpAny_ready (rs := [3, 13]) (by kernel_rfl) (by simp) ?_
          refine AllReady.cons rfl (fun K hK => ?_) ?_
          · have tk := (ho6.cellAt kn (by omega)).trans (intCells_get zs kn _ hz0)
            go_simp
            clear tk
            refine hK _ _ ?_
            clear hK K
            refine wpAny_ready (rs := [13]) (by kernel_rfl) (by simp) ?_
            refine AllReady.cons rfl (fun K hK => ?_) ?_
            · have tk := (ho6.cellAt kn (by omega)).trans (intCells_get zs kn _ hz0)
              go_simp
              clear tk
              refine hK _ _ ?_
              clear hK K
              refine wpAny_take (i := 14) (v := .int .i64 (IntKind.i64.wrap (z1 - z0))) rfl (by kernel_rfl) (by kernel_rfl) (by kernel_rfl) (fun _ _ _ h => h) (Or.inl ⟨by rfl, fun W => by go_simp⟩) ?_
              refine wpAny_ready (rs := [15]) (by kernel_rfl) (by simp) ?_
              refine AllReady.cons rfl (fun K hK => ?_) ?_
              · go_simp
                refine (pick_any B R (p3 + 1) (IntKind.i64.wrap (z1 - z0)) _ D6.rd.rd (by omega)).mono ?_
                rintro e u15 ⟨rfl, ra, ga, sa⟩
                have Du15 := D6.more ra ga
                have hu15 := owns_grown ho6 ga (fun k e => by cases e; have := D6.rd.lt; omega)
                clear ra ga sa
                generalize pickV R (p3 + 1) (IntKind.i64.wrap (z1 - z0)) = m5
                refine hK _ _ ?_
                clear hK K
                refine wpAny_take (i := 16) (v := .int .i64 (IntKind.i64.wrap (z0 + m5))) rfl (by kernel_rfl) (by kernel_rfl) (by kernel_rfl) (fun _ _ _ h => h) (Or.inl ⟨by rfl, fun W => by go_simp⟩) ?_
                refine wpAny_take (i := 17) (v := .int .i64 (IntKind.i64.wrap (z0 + m5))) rfl (by kernel_rfl) (by kernel_rfl) (by kernel_rfl) (fun _ _ _ h => h) (Or.inl ⟨by rfl, fun W => by go_simp⟩) ?_
                refine wpAny_done (by kernel_rfl) ?_ _
                go_wp2
                go_meet
                case rel => exact ⟨_, _, rfl, by omega, hu15, Du15⟩
              exact AllReady.nil
            exact AllReady.nil
          refine AllReady.cons rfl (fun K hK => ?_) ?_
          · have tk := (ho6.cellAt kn (by omega)).trans (intCells_get zs kn _ hz0)
            go_simp
            clear tk
            refine hK _ _ ?_
            clear hK K
            refine wpAny_take (i := 14) (v := .int .i64 (IntKind.i64.wrap (z1 - z0))) rfl (by kernel_rfl) (by kernel_rfl) (by kernel_rfl) (fun _ _ _ h => h) (Or.inl ⟨by rfl, fun W => by go_simp⟩) ?_
            refine wpAny_ready (rs := [3, 15]) (by kernel_rfl) (by simp) ?_
            refine AllReady.cons rfl (fun K hK => ?_) ?_
            · have tk := (ho6.cellAt kn (by omega)).trans (intCells_get zs kn _ hz0)
              go_simp
              clear tk
              refine hK _ _ ?_
              clear hK K
              refine wpAny_ready (rs := [15]) (by kernel_rfl) (by simp) ?_
              refine AllReady.cons rfl (fun K hK => ?_) ?_
              · go_simp
                refine (pick_any B R (p3 + 1) (IntKind.i64.wrap (z1 - z0)) _ D6.rd.rd (by omega)).mono ?_
                rintro e u15 ⟨rfl, ra, ga, sa⟩
                have Du15 := D6.more ra ga
                have hu15 := owns_grown ho6 ga (fun k e => by cases e; have := D6.rd.lt; omega)
                clear ra ga sa
                generalize pickV R (p3 + 1) (IntKind.i64.wrap (z1 - z0)) = m5
                refine hK _ _ ?_
                clear hK K
                refine wpAny_take (i := 16) (v := .int .i64 (IntKind.i64.wrap (z0 + m5))) rfl (by kernel_rfl) (by kernel_rfl) (by kernel_rfl) (fun _ _ _ h => h) (Or.inl ⟨by rfl, fun W => by go_simp⟩) ?_
                refine wpAny_take (i := 17) (v := .int .i64 (IntKind.i64.wrap (z0 + m5))) rfl (by kernel_rfl) (by kernel_rfl) (by kernel_rfl) (fun _ _ _ h => h) (Or.inl ⟨by rfl, fun W => by go_simp⟩) ?_
                refine wpAny_done (by kernel_rfl) ?_ _
                go_wp2
                go_meet
                case rel => exact ⟨_, _, rfl, by omega, hu15, Du15⟩
              exact AllReady.nil
            refine AllReady.cons rfl (fun K hK => ?_) ?_
            · go_simp
              refine (pick_any B R (p3 + 1) (IntKind.i64.wrap (z1 - z0)) _ D6.rd.rd (by omega)).mono ?_
              rintro e u15 ⟨rfl, ra, ga, sa⟩
              have Du15 := D6.more ra ga
              have hu15 := owns_grown ho6 ga (fun k e => by cases e; have := D6.rd.lt; omega)
              clear ra ga sa
              generalize pickV R (p3 + 1) (IntKind.i64.wrap (z1 - z0)) = m5
              refine hK _ _ ?_
              clear hK K
              refine wpAny_ready (rs := [3]) (by kernel_rfl) (by simp) ?_
              refine AllReady.cons rfl (fun K hK => ?_) ?_
              · have tk := (hu15.cellAt kn (by omega)).trans (intCells_get zs kn _ hz0)
                go_simp
                clear tk
                refine hK _ _ ?_
                clear hK K
                refine wpAny_take (i := 16) (v := .int .i64 (IntKind.i64.wrap (z0 + m5))) rfl (by kernel_rfl) (by kernel_rfl) (by kernel_rfl) (fun _ _ _ h => h) (Or.inl ⟨by rfl, fun W => by go_simp⟩) ?_
                refine wpAny_take (i := 17) (v := .int .i64 (IntKind.i64.wrap (z0 + m5))) rfl (by kernel_rfl) (by kernel_rfl) (by kernel_rfl) (fun _ _ _ h => h) (Or.inl ⟨by rfl, fun W => by go_simp⟩) ?_
                refine wpAny_done (by kernel_rfl) ?_ _
                go_wp2
                go_meet
                case rel => exact ⟨_, _, rfl, by omega, hu15, Du15⟩
              exact AllReady.nil
            exact AllReady.nil
          exact AllReady.nil
        refine AllReady.cons rfl (fun K hK => ?_) ?_
        · have tk := (ho6.cellAt kn (by omega)).trans (intCells_get zs kn _ hz0)
          go_simp
          clear tk
          refine hK _ _ ?_
          clear hK K
          refine wpAny_ready (rs := [3, 9]) (by kernel_rfl) (by simp) ?_
          refine AllReady.cons rfl (fun K hK => ?_) ?_
          · have tk := (ho6.cellAt kn (by omega)).trans (intCells_get zs kn _ hz0)
            go_simp
            clear tk
            refine hK _ _ ?_
            clear hK K
            refine wpAny_ready (rs := [9]) (by kernel_rfl) (by simp) ?_
            refine AllReady.cons rfl (fun K hK => ?_) ?_
            · have tk := (ho6.cellAt (kn + 1) (by omega)).trans (intCells_get zs (kn + 1) _ hz1)
              go_simp
              clear tk
              refine hK _ _ ?_
              clear hK K
              refine wpAny_take (i := 14) (v := .int .i64 (IntKind.i64.wrap (z1 - z0))) rfl (by kernel_rfl) (by kernel_rfl) (by kernel_rfl) (fun _ _ _ h => h) (Or.inl ⟨by rfl, fun W => by go_simp⟩) ?_
              refine wpAny_ready (rs := [15]) (by kernel_rfl) (by simp) ?_
              refine AllReady.cons rfl (fun K hK => ?_) ?_
              · go_simp
                refine (pick_any B R (p3 + 1) (IntKind.i64.wrap (z1 - z0)) _ D6.rd.rd (by omega)).mono ?_
                rintro e u15 ⟨rfl, ra, ga, sa⟩
                have Du15 := D6.more ra ga
                have hu15 := owns_grown ho6 ga (fun k e => by cases e; have := D6.rd.lt; omega)
                clear ra ga sa
                generalize pickV R (p3 + 1) (IntKind.i64.wrap (z1 - z0)) = m5
                refine hK _ _ ?_
                clear hK K
                refine wpAny_take (i := 16) (v := .int .i64 (IntKind.i64.wrap (z0 + m5))) rfl (by kernel_rfl) (by kernel_rfl) (by kernel_rfl) (fun _ _ _ h => h) (Or.inl ⟨by rfl, fun W => by go_simp⟩) ?_
                refine wpAny_take (i := 17) (v := .int .i64 (IntKind.i64.wrap (z0 + m5))) rfl (by kernel_rfl) (by kernel_rfl) (by kernel_rfl) (fun _ _ _ h => h) (Or.inl ⟨by rfl, fun W => by go_simp⟩) ?_
                refine wpAny_done (by kernel_rfl) ?_ _
                go_wp2
                go_meet
                case rel => exact ⟨_, _, rfl, by omega, hu15, Du15⟩
              exact AllReady.nil
            exact AllReady.nil
          refine AllReady.cons rfl (fun K hK => ?_) ?_
          · have tk := (ho6.cellAt (kn + 1) (by omega)).trans (intCells_get zs (kn + 1) _ hz1)
            go_simp
            clear tk
            refine hK _ _ ?_
            clear hK K
            refine wpAny_take (i := 14) (v := .int .i64 (IntKind.i64.wrap (z1 - z0))) rfl (by kernel_rfl) (by kernel_rfl) (by kernel_rfl) (fun _ _ _ h => h) (Or.inl ⟨by rfl, fun W => by go_simp⟩) ?_
            refine wpAny_ready (rs := [3, 15]) (by kernel_rfl) (by simp) ?_
            refine AllReady.cons rfl (fun K hK => ?_) ?_
            · have tk := (ho6.cellAt kn (by omega)).trans (intCells_get zs kn _ hz0)
              go_simp
              clear tk
              refine hK _ _ ?_
              clear hK K
              refine wpAny_ready (rs := [15]) (by kernel_rfl) (by simp) ?_
              refine AllReady.cons rfl (fun K hK => ?_) ?_
              · go_simp
                refine (pick_any B R (p3 + 1) (IntKind.i64.wrap (z1 - z0)) _ D6.rd.rd (by omega)).mono ?_
                rintro e u15 ⟨rfl, ra, ga, sa⟩
                have Du15 := D6.more ra ga
                have hu15 := owns_grown ho6 ga (fun k e => by cases e; have := D6.rd.lt; omega)
                clear ra ga sa
                generalize pickV R (p3 + 1) (IntKind.i64.wrap (z1 - z0)) = m5
                refine hK _ _ ?_
                clear hK K
                refine wpAny_take (i := 16) (v := .int .i64 (IntKind.i64.wrap (z0 + m5))) rfl (by kernel_rfl) (by kernel_rfl) (by kernel_rfl) (fun _ _ _ h => h) (Or.inl ⟨by rfl, fun W => by go_simp⟩) ?_
                refine wpAny_take (i := 17) (v := .int .i64 (IntKind.i64.wrap (z0 + m5))) rfl (by kernel_rfl) (by kernel_rfl) (by kernel_rfl) (fun _ _ _ h => h) (Or.inl ⟨by rfl, fun W => by go_simp⟩) ?_
                refine wpAny_done (by kernel_rfl) ?_ _
                go_wp2
                go_meet
                case rel => exact ⟨_, _, rfl, by omega, hu15, Du15⟩
              exact AllReady.nil
            refine AllReady.cons rfl (fun K hK => ?_) ?_
            · go_simp
              refine (pick_any B R (p3 + 1) (IntKind.i64.wrap (z1 - z0)) _ D6.rd.rd (by omega)).mono ?_
              rintro e u15 ⟨rfl, ra, ga, sa⟩
              have Du15 := D6.more ra ga
              have hu15 := owns_grown ho6 ga (fun k e => by cases e; have := D6.rd.lt; omega)
              clear ra ga sa
              generalize pickV R (p3 + 1) (IntKind.i64.wrap (z1 - z0)) = m5
              refine hK _ _ ?_
              clear hK K
              refine wpAny_ready (rs := [3]) (by kernel_rfl) (by simp) ?_
              refine AllReady.cons rfl (fun K hK => ?_) ?_
              · have tk := (hu15.cellAt kn (by omega)).trans (intCells_get zs kn _ hz0)
                go_simp
                clear tk
                refine hK _ _ ?_
                clear hK K
                refine wpAny_take (i := 16) (v := .int .i64 (IntKind.i64.wrap (z0 + m5))) rfl (by kernel_rfl) (by kernel_rfl) (by kernel_rfl) (fun _ _ _ h => h) (Or.inl ⟨by rfl, fun W => by go_simp⟩) ?_
                refine wpAny_take (i := 17) (v := .int .i64 (IntKind.i64.wrap (z0 + m5))) rfl (by kernel_rfl) (by kernel_rfl) (by kernel_rfl) (fun _ _ _ h => h) (Or.inl ⟨by rfl, fun W => by go_simp⟩) ?_
                refine wpAny_done (by kernel_rfl) ?_ _
                go_wp2
                go_meet
                case rel => exact ⟨_, _, rfl, by omega, hu15, Du15⟩
              exact AllReady.nil
            exact AllReady.nil
          exact AllReady.nil
        exact AllReady.nil
      case rest =>
        obtain ⟨tt, p6, htt, hp6, ho6, D6⟩ := hcut
        subst htt
        clear D5 ho5
        go_wp2_with fail
        refine (pick_any B R p6 10 _ D6.rd.rd (by omega)).mono ?_
        rintro e w7 ⟨rfl, ra, ga, sa⟩
        have D7 := D6.more ra ga
        have ho7 := owns_grown ho6 ga (fun k e => by cases e; have := D6.rd.lt; omega)
        clear ra ga sa D6 ho6
        generalize pickV R p6 10 = m
        have kwl : IntKind.i64.wrap ((l.length : Int) - 1) = (l.length : Int) - 1 := by rw [IntKind.wrap_i64]; omega
        by_cases h0 : m = 0
        · subst h0
          go_wp2_with fail
          refine (pick_any B R (p6 + 1) 3 _ D7.rd.rd (by omega)).mono ?_
          rintro e w8 ⟨rfl, ra, ga, sa⟩
          have D8 := D7.more ra ga
          have ho8 := owns_grown ho7 ga (fun k e => by cases e; have := D7.rd.lt; omega)
          clear ra ga sa D7 ho7
          generalize pickV R (p6 + 1) 3 = m8
          obtain ⟨⟨e0, e1, e2, e3, e4⟩, ef⟩ := D8.pa.cells
          obtain ⟨⟨f0, f1, f2, f3, f4⟩, ff⟩ := D8.res.cells
          have hXw : X ≠ w.heap.size := by have := D8.ge; omega
          clear hz0 hz1 kk0 kk1 kk2 kk3 kw hr2
          cases hin : inB (wrap64 (wrap64 ((kn : Int) + m8) - 1)) 0 ((l.length : Int) - 1) with
          | false =>
            have HIN : Hid (inB (wrap64 (wrap64 ((kn : Int) + m8) - 1)) 0 ((l.length : Int) - 1) = false) := hin
            clear hin
            go_wp2_with fail
            refine (in_val (wrap64 (wrap64 ((kn : Int) + m8) - 1)) 0 ((l.length : Int) - 1) false _ HIN.out).mono ?_
            rintro e w9 ⟨rfl, rfl⟩
            clear HIN
            generalize wrap64 (wrap64 ((kn : Int) + m8) - 1) = kv
            go_wp2
            clear e0 e1 e2 e3 e4 ef hXw kwl HZL hp hp2 hp2' hp3 hp6 k1
            refine bodyPost_ret (v := .tuple #[.agg #[.int .i64 q, .int .i64 s, .slice a l.length cap, .int .i64 fr, .int .i64 b], .int .i64 kv, .int .i64 tt, .int .i64 tt]) (by simp [results, Tryz.results67, go_sem, f0, f1, f2, f3, f4]) rfl ?_
            exact D8.post hcap hlen _ _ _
          | true =>
            obtain ⟨i1, i2⟩ := (inB_iff _ _ _).1 hin
            obtain ⟨km, hkm⟩ : ∃ km : Nat, wrap64 (wrap64 ((kn : Int) + m8) - 1) = (km : Int) := Int.eq_ofNat_of_zero_le i1
            have hkz : km < zs.length := by have := HZL.out; omega
            obtain ⟨zk, hzk⟩ : ∃ z, zs[km]? = some z := ⟨_, List.getElem?_eq_getElem hkz⟩
            have j0 : (0 : Int) ≤ (km : Int) := by omega
            have j1 : (km : Int) < (zs.length : Int) := by omega
            have HZK : Hid (zs[km]? = some zk) := hzk
            clear hzk hg1 hg2 hf
            have HIN : Hid (inB (wrap64 (wrap64 ((kn : Int) + m8) - 1)) 0 ((l.length : Int) - 1) = true) := hin
            have HKM : Hid (wrap64 (wrap64 ((kn : Int) + m8) - 1) = (km : Int)) := hkm
            clear hin hkm i1 i2 hkz
            go_wp2_with fail
            refine (in_val (wrap64 (wrap64 ((kn : Int) + m8) - 1)) 0 ((l.length : Int) - 1) true _ HIN.out).mono ?_
            rintro e w9 ⟨rfl, rfl⟩
            rw [HKM.out]
            clear HIN HKM
            go_wp2
            clear kwl k1 hl1
            have tk := (ho8.cellAt km (by omega)).trans (intCells_get zs km _ HZK.out)
            have tn : g ≠ w.heap.size := by have := owns_base ho8 g rfl; omega
            go_region
            all_goals
              go_wp2
              clear e0 e1 e2 e3 e4 ef tk tn hXw j0 j1
              refine bodyPost_ret (v := .tuple #[.agg #[.int .i64 q, .int .i64 s, .slice a l.length cap, .int .i64 fr, .int .i64 b], .int .i64 (km : Int), .int .i64 zk, .int .i64 tt]) (by simp [results, Tryz.results67, go_sem, f0, f1, f2, f3, f4]) rfl ?_
              exact D8.drew.post hcap hlen _ _ _
        · have g0 : (m == 0) = false := beq_eq_false_iff_ne.2 h0
          by_cases h1 : m = 1
          · subst h1
            clear g0 h0
            go_wp2
            obtain ⟨⟨e0, e1, e2, e3, e4⟩, ef⟩ := D7.pa.cells
            have hXw : X ≠ w.heap.size := by have := D7.ge; omega
            have tn : g ≠ w.heap.size := by have := owns_base ho7 g rfl; omega
            have tk := (ho7.cellAt kn (by omega)).trans (intCells_get zs kn _ hz0)
            clear kk2 kk3 kw kwl k1 hl1 hz1 hr2
            have D7d := D7.drew
            have ho7d : w7.drew.ownsRow (w.heap.size + 1) 3 1 (.slice (some ⟨g, 0, none⟩) zs.length dcap) zs.length (intCells zs) := ho7
            have K1 : ∀ W : World, RdAt W B R (p6 + 1) → Calls Tryz.prog 77 #[.pointer (some ⟨B, 0, none⟩), .int .i64 5] W fun e w' => e = .returned (.int .i64 (pickV R (p6 + 1) 5)) ∧ RdAt w' B R (p6 + 1 + 1) ∧ W.grownBy w' (some B) ∧ w'.heap.size = W.heap.size := fun W h => pick_any B R (p6 + 1) 5 W h (by omega)
            generalize pickV R (p6 + 1) 5 = m7 at K1
            have kz : kn < zs.length := by omega
            have HZ0 : Hid (zs[kn]? = some z0) := hz0
            clear hz0 kz
            go_region_with (go_at_call 77; refine (K1 _ D7d.rd.rd).mono ?_; rintro e w8 ⟨rfl, ra, ga, sa⟩; have D8 := D7d.more ra ga; have ho8 := owns_grown ho7d ga (fun k e => by cases e; have := D7d.rd.lt; omega); have y := D8.pa.cells; have y0 := y.1.1; have y1 := y.1.2.1; have y2 := y.1.2.2.1; have y3 := y.1.2.2.2.1; have y4 := y.1.2.2.2.2; have yf := y.2; have f := D8.res.cells; have f0 := f.1.1; have f1 := f.1.2.1; have f2 := f.1.2.2.1; have f3 := f.1.2.2.2.1; have f4 := f.1.2.2.2.2; have ff := f.2; clear y f; have tk8 := (ho8.cellAt kn (by omega)).trans (intCells_get zs kn _ HZ0.out); clear ra ga sa)
            all_goals
              go_wp2
              clear e0 e1 e2 e3 e4 ef tk tn hXw y0 y1 y2 y3 y4 yf tk8 K1
              refine bodyPost_ret (v := .tuple #[.agg #[.int .i64 q, .int .i64 s, .slice a l.length cap, .int .i64 fr, .int .i64 b], .int .i64 (kn : Int), .int .i64 (IntKind.i64.wrap (IntKind.i64.wrap (z0 + m7) - 2)), .int .i64 tt]) (by simp [results, Tryz.results67, go_sem, f0, f1, f2, f3, f4]) rfl ?_
              exact D8.post hcap hlen _ _ _
          · have g1 : (m == 1) = false := beq_eq_false_iff_ne.2 h1
            by_cases h2 : m = 2
            · subst h2
              clear g0 h0 g1 h1
              go_wp2_with fail
              refine (pick_any B R (p6 + 1) 9 _ D7.rd.rd (by omega)).mono ?_
              rintro e w8 ⟨rfl, ra, ga, sa⟩
              have D8 := D7.more ra ga
              have ho8 := owns_grown ho7 ga (fun k e => by cases e; have := D7.rd.lt; omega)
              clear ra ga sa D7 ho7
              generalize pickV R (p6 + 1) 9 = m8
              obtain ⟨⟨e0, e1, e2, e3, e4⟩, ef⟩ := D8.pa.cells
              obtain ⟨⟨f0, f1, f2, f3, f4⟩, ff⟩ := D8.res.cells
              have hXw : X ≠ w.heap.size := by have := D8.ge; omega
              clear hz0 hz1 kk0 kk1 kk2 kk3 kw hr2
              cases hin : inB ((kn : Int)) 0 ((l.length : Int) - 1) with
              | false =>
                have HIN : Hid (inB ((kn : Int)) 0 ((l.length : Int) - 1) = false) := hin
                clear hin
                go_wp2_with fail
                refine (in_val ((kn : Int)) 0 ((l.length : Int) - 1) false _ HIN.out).mono ?_
                rintro e w9 ⟨rfl, rfl⟩
                clear HIN
                generalize wrap64 (tt + m8) = tt
                generalize (kn : Int) = kv
                go_wp2
                clear e0 e1 e2 e3 e4 ef hXw kwl HZL hp hp2 hp2' hp3 hp6 k1
                refine bodyPost_ret (v := .tuple #[.agg #[.int .i64 q, .int .i64 s, .slice a l.length cap, .int .i64 fr, .int .i64 b], .int .i64 kv, .int .i64 tt, .int .i64 tt]) (by simp [results, Tryz.results67, go_sem, f0, f1, f2, f3, f4]) rfl ?_
                exact D8.post hcap hlen _ _ _
              | true =>
                obtain ⟨i1, i2⟩ := (inB_iff _ _ _).1 hin
                obtain ⟨km, hkm⟩ : ∃ km : Nat, (kn : Int) = (km : Int) := Int.eq_ofNat_of_zero_le i1
                have hkz : km < zs.length := by have := HZL.out; omega
                obtain ⟨zk, hzk⟩ : ∃ z, zs[km]? = some z := ⟨_, List.getElem?_eq_getElem hkz⟩
                have j0 : (0 : Int) ≤ (km : Int) := by omega
                have j1 : (km : Int) < (zs.length : Int) := by omega
                have HZK : Hid (zs[km]? = some zk) := hzk
                clear hzk hg1 hg2 hf
                have HIN : Hid (inB ((kn : Int)) 0 ((l.length : Int) - 1) = true) := hin
                have HKM : Hid ((kn : Int) = (km : Int)) := hkm
                clear hin hkm i1 i2 hkz
                go_wp2_with fail
                refine (in_val ((kn : Int)) 0 ((l.length : Int) - 1) true _ HIN.out).mono ?_
                rintro e w9 ⟨rfl, rfl⟩
                rw [HKM.out]
                clear HIN HKM
                generalize wrap64 (tt + m8) = tt
                go_wp2
                clear kwl k1 hl1
                have tk := (ho8.cellAt km (by omega)).trans (intCells_get zs km _ HZK.out)
                have tn : g ≠ w.heap.size := by have := owns_base ho8 g rfl; omega
                go_region
                all_goals
                  go_wp2
                  clear e0 e1 e2 e3 e4 ef tk tn hXw j0 j1
                  refine bodyPost_ret (v := .tuple #[.agg #[.int .i64 q, .int .i64 s, .slice a l.length cap, .int .i64 fr, .int .i64 b], .int .i64 (km : Int), .int .i64 zk, .int .i64 tt]) (by simp [results, Tryz.results67, go_sem, f0, f1, f2, f3, f4]) rfl ?_
                  exact D8.drew.post hcap hlen _ _ _
            · have g2 : (m == 2) = false := beq_eq_false_iff_ne.2 h2
              have D8 := D7
              have ho8 := ho7
              clear D7 ho7
              obtain ⟨⟨e0, e1, e2, e3, e4⟩, ef⟩ := D8.pa.cells
              obtain ⟨⟨f0, f1, f2, f3, f4⟩, ff⟩ := D8.res.cells
              have hXw : X ≠ w.heap.size := by have := D8.ge; omega
              clear hz0 hz1 kk0 kk1 kk2 kk3 kw hr2
              cases hin : inB ((kn : Int)) 0 ((l.length : Int) - 1) with
              | false =>
                have HIN : Hid (inB ((kn : Int)) 0 ((l.length : Int) - 1) = false) := hin
                clear hin
                go_wp2_with fail
                refine (in_val ((kn : Int)) 0 ((l.length : Int) - 1) false _ HIN.out).mono ?_
                rintro e w9 ⟨rfl, rfl⟩
                clear HIN
                generalize (kn : Int) = kv
                go_wp2
                clear e0 e1 e2 e3 e4 ef hXw kwl HZL hp hp2 hp2' hp3 hp6 k1
                refine bodyPost_ret (v := .tuple #[.agg #[.int .i64 q, .int .i64 s, .slice a l.length cap, .int .i64 fr, .int .i64 b], .int .i64 kv, .int .i64 tt, .int .i64 tt]) (by simp [results, Tryz.results67, go_sem, f0, f1, f2, f3, f4]) rfl ?_
                exact D8.post hcap hlen _ _ _
              | true =>
                obtain ⟨i1, i2⟩ := (inB_iff _ _ _).1 hin
                obtain ⟨km, hkm⟩ : ∃ km : Nat, (kn : Int) = (km : Int) := Int.eq_ofNat_of_zero_le i1
                have hkz : km < zs.length := by have := HZL.out; omega
                obtain ⟨zk, hzk⟩ : ∃ z, zs[km]? = some z := ⟨_, List.getElem?_eq_getElem hkz⟩
                have j0 : (0 : Int) ≤ (km : Int) := by omega
                have j1 : (km : Int) < (zs.length : Int) := by omega
                have HZK : Hid (zs[km]? = some zk) := hzk
                clear hzk hg1 hg2 hf
                have HIN : Hid (inB ((kn : Int)) 0 ((l.length : Int) - 1) = true) := hin
                have HKM : Hid ((kn : Int) = (km : Int)) := hkm
                clear hin hkm i1 i2 hkz
                go_wp2_with fail
                refine (in_val ((kn : Int)) 0 ((l.length : Int) - 1) true _ HIN.out).mono ?_
                rintro e w9 ⟨rfl, rfl⟩
                rw [HKM.out]
                clear HIN HKM
                go_wp2
                clear kwl k1 hl1
                have tk := (ho8.cellAt km (by omega)).trans (intCells_get zs km _ HZK.out)
                have tn : g ≠ w.heap.size := by have := owns_base ho8 g rfl; omega
                go_region
                all_goals
                  go_wp2
                  clear e0 e1 e2 e3 e4 ef tk tn hXw j0 j1
                  refine bodyPost_ret (v := .tuple #[.agg #[.int .i64 q, .int .i64 s, .slice a l.length cap, .int .i64 fr, .int .i64 b], .int .i64 (km : Int), .int .i64 zk, .int .i64 tt]) (by simp [results, Tryz.results67, go_sem, f0, f1, f2, f3, f4]) rfl ?_
                  exact D8.drew.post hcap hlen _ _ _
end Go.Proofs.YtijcdikekgmfoaaGreatDoor

namespace Go.Proofs.YtijcdikekgmfoaaGreatDoor
open Go.RowKit

set_option maxRecDepth 20000 in
theorem rest_draw (a0 : Option Addr) (cb co ccap : Nat) (zs0 : List Int) (w : World) (hz : BytesAt w a0 cb co zs0) (hl : zs0.length ≤ 1048576) (hc : zs0.length ≤ ccap) :
    Calls Tryz.prog 21 #[.slice a0 zs0.length ccap] w fun e w' => ∃ q s fr b a b0 o cap l k en t, e = .returned (.tuple #[.agg #[.int .i64 q, .int .i64 s, .slice a l.length cap, .int .i64 fr, .int .i64 b], .int .i64 k, .int .i64 en, .int .i64 t]) ∧
      l.length ≤ 41 ∧ l.length ≤ cap ∧ StepsAt w' a b0 o l ∧ Below w.heap.size w w' := by
  have P0 := PathAt.new w 0 0 0 0 (.slice none 0 0)
  have hz' : BytesAt (w.alloc (.cells #[.int .i64 0, .int .i64 0, .slice none 0 0, .int .i64 0, .int .i64 0] 27)) a0 cb co zs0 := ⟨hz.here, fun h => by have := hz.lt h; simp; omega, fun i z hi => by
    have hne : zs0 ≠ [] := by intro e; rw [e] at hi; simp at hi
    rw [World.cell?_of_block (w := w) (a := ⟨cb, co + i, none⟩) (Below.heap_alloc w _ cb (hz.lt hne))]
    exact hz.cell i z hi, hz.rng⟩
  go_enter Tryz.func21, Tryz.ntmps21
  go_wp2_with fail
  refine (open_any a0 cb co ccap zs0 _ hz' hl hc).mono ?_
  rintro e w1 ⟨R, rfl, r1, hb1, s1⟩
  rw [World.size_alloc] at r1 s1
  have P1 := P0.keep hb1 P0.lt
  have B1 : Below w.heap.size w w1 := ((Below.refl _ _).alloc (Nat.le_refl _) _).trans (hb1.mono (by simp))
  clear hb1 P0 hz'
  go_wp2_with fail
  refine (seen_draw (w.heap.size + 1) R 0 _ r1 (by omega)).mono ?_
  rintro e w2 ⟨q, s, fr, b, a, b0, o, cap, l, k, en, t, rfl, hll, hcap, hs2, hb0, g2⟩
  have P2 := P1.grown g2 (by simp)
  have hne : l ≠ [] → w.heap.size ≠ b0 := fun h e => by have := hb0 h; omega
  have B2 : Below w.heap.size w w2 := B1.grown g2 B1.size (fun k e => by cases e; omega)
  obtain ⟨⟨f0, f1, f2, f3, f4⟩, ff⟩ := P2.cells
  clear P1 r1 hb0 g2 B1
  go_wp2
  refine bodyPost_ret (v := .tuple #[.agg #[.int .i64 q, .int .i64 s, .slice a l.length cap, .int .i64 fr, .int .i64 b], .int .i64 k, .int .i64 en, .int .i64 t]) (by simp [results, Tryz.results21, go_sem, f0, f1, f2, f3, f4]) rfl ?_
  refine ⟨q, s, fr, b, a, b0, o, cap, l, k, en, t, rfl, hll, hcap, ?_, ?_⟩
  · iterate 5 (refine StepsAt.grown ?_ (grown_set _ _ _) (fun hl e => hne hl (by cases e; rfl)))
    exact hs2
  · iterate 5 (refine Below.setCell ?_ (show w.heap.size ≤ w.heap.size from Nat.le_refl _) _)
    exact B2
end Go.Proofs.YtijcdikekgmfoaaGreatDoor

namespace Go.Proofs.YtijcdikekgmfoaaGreatDoor
open Go.RowKit

def sameB (t u : Stp) : Bool := t.x == u.x && (t.y == u.y && (t.lo == u.lo && (t.hi == u.hi && (t.fr == u.fr && (t.by_ == u.by_ && t.ho == u.ho)))))
def sameAt (l l' : List Stp) (j : Nat) : Bool := sameB (l.getD j .zero) (l'.getD j .zero)
def preN : List Stp → List Stp → Nat
  | t :: l, u :: l' => if sameB t u then preN l l' + 1 else 0
  | _, _ => 0
def kindEq (q s q' s' : Int) : Bool := q == q' && s == s'
def sharedN (q s : Int) (l : List Stp) (q' s' : Int) (l' : List Stp) : Nat := if kindEq q s q' s' then preN l l' else 0

theorem preN_at : ∀ (k : Nat) (l l' : List Stp), k ≤ l.length → k ≤ l'.length → (∀ j, j < k → sameAt l l' j = true) → (k = l.length ∨ k = l'.length ∨ sameAt l l' k = false) → preN l l' = k
  | 0, [], l', _, _, _, _ => by cases l' <;> rfl
  | 0, t :: l, [], _, _, _, _ => rfl
  | 0, t :: l, u :: l', _, _, _, h => by
    rcases h with h | h | h
    · simp at h
    · simp at h
    · unfold preN; rw [if_neg]; intro e; unfold sameAt at h; simp [e] at h
  | k + 1, [], _, h, _, _, _ => by simp at h
  | k + 1, t :: l, [], _, h, _, _ => by simp at h
  | k + 1, t :: l, u :: l', h1, h2, h3, h4 => by
    have h0 := h3 0 (by omega)
    unfold sameAt at h0
    simp at h0
    unfold preN
    rw [if_pos h0, preN_at k l l' (by simpa using h1) (by simpa using h2) (fun j hj => by have := h3 (j + 1) (by omega); unfold sameAt at this ⊢; simpa using this) (by
      rcases h4 with h | h | h
      · left; simpa using h
      · right; left; simpa using h
      · right; right; unfold sameAt at h ⊢; simpa using h)]

set_option maxHeartbeats 4000000 in
theorem run_eql_step (t u : Stp) (w : World) :
    (binOp .eql 44 (.agg #[.int .i64 t.x, .int .i64 t.y, .int .i64 t.lo, .int .i64 t.hi, .int .i64 t.fr, .int .i64 t.by_, .bool t.ho]) (.agg #[.int .i64 u.x, .int .i64 u.y, .int .i64 u.lo, .int .i64 u.hi, .int .i64 u.fr, .int .i64 u.by_, .bool u.ho])).run Tryz.prog w = .ok (.bool (sameB t u)) w := by
  unfold sameB
  cases h0 : t.x == u.x with
  | false => simp [go_sem, h0]
  | true =>
    cases h1 : t.y == u.y with
    | false => simp [go_sem, h0, h1]
    | true =>
      cases h2 : t.lo == u.lo with
      | false => simp [go_sem, h0, h1, h2]
      | true =>
        cases h3 : t.hi == u.hi with
        | false => simp [go_sem, h0, h1, h2, h3]
        | true =>
          cases h4 : t.fr == u.fr with
          | false => simp [go_sem, h0, h1, h2, h3, h4]
          | true =>
            cases h5 : t.by_ == u.by_ with
            | false => simp [go_sem, h0, h1, h2, h3, h4, h5]
            | true =>
              cases h6 : t.ho == u.ho with
              | false => simp [go_sem, h0, h1, h2, h3, h4, h5, h6]
              | true =>
                simp [go_sem, h0, h1, h2, h3, h4, h5, h6]

theorem run_eql_kind (q s q' s' : Int) (w : World) : (binOp .eql 24 (.agg #[.int .i64 q, .int .i64 s]) (.agg #[.int .i64 q', .int .i64 s'])).run Tryz.prog w = .ok (.bool (kindEq q s q' s')) w := by
  unfold kindEq
  cases h0 : q == q' with
  | false => simp [go_sem, h0]
  | true =>
    cases h1 : s == s' with
    | false => simp [go_sem, h0, h1]
    | true => simp [go_sem, h0, h1]
theorem run_neq_kind (q s q' s' : Int) (w : World) : (binOp .neq 24 (.agg #[.int .i64 q, .int .i64 s]) (.agg #[.int .i64 q', .int .i64 s'])).run Tryz.prog w = .ok (.bool (!kindEq q s q' s')) w := by
  unfold kindEq
  cases h0 : q == q' with
  | false => simp [go_sem, h0]
  | true =>
    cases h1 : s == s' with
    | false => simp [go_sem, h0, h1]
    | true => simp [go_sem, h0, h1]
theorem run_neq_step (t u : Stp) (w : World) :
    (binOp .neq 44 (.agg #[.int .i64 t.x, .int .i64 t.y, .int .i64 t.lo, .int .i64 t.hi, .int .i64 t.fr, .int .i64 t.by_, .bool t.ho]) (.agg #[.int .i64 u.x, .int .i64 u.y, .int .i64 u.lo, .int .i64 u.hi, .int .i64 u.fr, .int .i64 u.by_, .bool u.ho])).run Tryz.prog w = .ok (.bool (!sameB t u)) w := by
  have h := run_eql_step t u w
  rw [run_eql_struct] at h
  rw [run_neq_struct]
  generalize (Op.equalIn 10000 44 (.agg #[.int .i64 t.x, .int .i64 t.y, .int .i64 t.lo, .int .i64 t.hi, .int .i64 t.fr, .int .i64 t.by_, .bool t.ho]) (.agg #[.int .i64 u.x, .int .i64 u.y, .int .i64 u.lo, .int .i64 u.hi, .int .i64 u.fr, .int .i64 u.by_, .bool u.ho])).run Tryz.prog w = r at h ⊢
  cases r with
  | ok b w' =>
    simp only [Result.andThen_ok, Result.ok.injEq, Value.bool.injEq] at h ⊢
    obtain ⟨rfl, rfl⟩ := h
    exact ⟨rfl, rfl⟩
  | _ => simp [Result.andThen] at h
end Go.Proofs.YtijcdikekgmfoaaGreatDoor

namespace Go.Proofs.YtijcdikekgmfoaaGreatDoor
open Go.RowKit

/-- The span of the first tick of a path. -/
def firstOf (A : Ans) : Int × Int := spanOf A.q A.s A.fr A.b A.l 0
/-- What FlyMayTurn answers. -/
def mayB (q s fr b : Int) (l : List Stp) (q' s' fr' b' : Int) (l' : List Stp) (st nw : Int) : Bool :=
  decide (st < (sharedN q s l q' s' l' : Int)) && (seenA q s fr b l st nw).ok && ((restA q' s' fr' b' l' st (firstOf (seenA q s fr b l st nw)).1 nw).ok && (restA q' s' fr' b' l' st (firstOf (seenA q s fr b l st nw)).2 nw).ok)

theorem canA_ok {q s fr b : Int} {m : List Stp} (h : (canA q s fr b m).ok = true) : spanB q s fr b m = true ∧ canA q s fr b m = { q := q, s := s, fr := fr, b := b, l := m, ok := true } := by
  unfold canA at h ⊢
  split at h
  · rename_i hs; rw [if_pos hs]; exact ⟨hs, rfl⟩
  · simp [Ans.no] at h
/-- A path that is left is ok, and has a flight. -/
theorem seenA_ok {q s fr b : Int} {l : List Stp} {st nw : Int} (h : (seenA q s fr b l st nw).ok = true) :
    pathB (seenA q s fr b l st nw).q (seenA q s fr b l st nw).s (seenA q s fr b l st nw).fr (seenA q s fr b l st nw).b (seenA q s fr b l st nw).l = true ∧ spanB (seenA q s fr b l st nw).q (seenA q s fr b l st nw).s (seenA q s fr b l st nw).fr (seenA q s fr b l st nw).b (seenA q s fr b l st nw).l = true := by
  unfold seenA at h ⊢
  split at h
  · rename_i hc
    rw [if_pos hc]
    obtain ⟨h1, h2⟩ := canA_ok h
    rw [h2]
    obtain ⟨hin, hsb⟩ := Bool.and_eq_true_iff.1 hc
    unfold inStepB at hin
    simp only [Bool.and_eq_true, inB_iff] at hin
    obtain ⟨⟨hp, hst⟩, hnw⟩ := hin
    refine ⟨left_path hp (by omega) (span_lo hp hsb (by omega)) ?_ hnw.1 h1, h1⟩
    have := mnB_le (spanOf q s fr b l st.toNat).2 nw
    omega
  · simp [Ans.no] at h
theorem restA_path {q s fr b : Int} {l : List Stp} {st en nw : Int} (h : pathB q s fr b l = false) : (restA q s fr b l st en nw).ok = false := by
  unfold restA inStepB
  rw [h]
  rfl
theorem spans_first {q s fr b : Int} {l : List Stp} (h : spanB q s fr b l = true) : (spansL q s fr b l)[0]? = some (spanOf q s fr b l 0) := by
  unfold spansL
  rw [if_pos h, List.getElem?_map, List.getElem?_range (by omega)]
  rfl
end Go.Proofs.YtijcdikekgmfoaaGreatDoor

namespace Go.Proofs.YtijcdikekgmfoaaGreatDoor
open Go.RowKit

/-- A box, as numbers. -/
structure Bx where
  x : Int
  y : Int
  lo : Int
  hi : Int
  in_ : Int
  out : Int

/-- Its cells. -/
abbrev Bx.cells (s : Bx) : List Value := [.int .i64 s.x, .int .i64 s.y, .int .i64 s.lo, .int .i64 s.hi, .int .i64 s.in_, .int .i64 s.out]
/-- The box of zeros. -/
def Bx.zero : Bx := ⟨0, 0, 0, 0, 0, 0⟩
theorem Bx.one (s : Bx) : (#[Value.int .i64 s.x, .int .i64 s.y, .int .i64 s.lo, .int .i64 s.hi, .int .i64 s.in_, .int .i64 s.out].all (·.oneCell')) = true := by
  simp [Value.oneCell']

/-- A box has a place at a tick. -/
def hasB (s : Bx) (x y l t : Int) : Bool := (s.x == x) && (s.y == y) && inB l s.lo s.hi && inB t s.in_ s.out
/-- A box has all of another one. -/
def coverB (b a : Bx) : Bool := (a.x == b.x) && (a.y == b.y) && decide (b.lo ≤ a.lo) && decide (a.hi ≤ b.hi) && decide (b.in_ ≤ a.in_) && decide (a.out ≤ b.out)
/-- A box has nothing. -/
def noneB (a : Bx) : Bool := decide (a.hi < a.lo) || decide (a.out < a.in_)
/-- A place is in one of the boxes at a tick. -/
def withinB (l : List Bx) (x y lev t : Int) : Bool := l.any fun s => hasB s x y lev t
/-- Each of these boxes has nothing, or is in one of those. -/
def smallB (m l : List Bx) : Bool := m.all fun a => noneB a || l.any fun b => coverB b a

theorem cover_point (s : Bx) (x y lev t : Int) : coverB s ⟨x, y, lev, lev, t, t⟩ = hasB s x y lev t := by
  unfold coverB hasB inB
  rw [Bool.eq_iff_iff]
  simp
  omega

/-- The cells of a list of boxes lie in block b from offset o on, six each. -/
structure BoxesAt (w : World) (a : Option Addr) (b o : Nat) (l : List Bx) : Prop where
  here : l ≠ [] → a = some ⟨b, o, none⟩
  lt : l ≠ [] → b < w.heap.size
  cell : ∀ (i : Nat) (s : Bx), l[i]? = some s → w.rangeAt b (o + i * 6) s.cells

theorem BoxesAt.below {w w' : World} {a : Option Addr} {b o B : Nat} {l : List Bx} (h : BoxesAt w a b o l) (hb : Below B w w') (hB : l ≠ [] → b < B) : BoxesAt w' a b o l where
  here := h.here
  lt hl := Nat.lt_of_lt_of_le (h.lt hl) hb.size
  cell i s hi j v hv := by
    have hne : l ≠ [] := by intro e; subst e; simp at hi
    rw [hb.cell (p := ⟨b, o + i * 6 + j, none⟩) (hB hne)]
    exact h.cell i s hi j v hv

/-- The six cells of the i-th box, as a walk asks for them. -/
theorem BoxesAt.six {w : World} {a : Option Addr} {b o : Nat} {l : List Bx} (h : BoxesAt w a b o l) {i : Nat} {s : Bx} (hi : l[i]? = some s) :
    w.cell? ⟨b, o + i * 6, none⟩ = some (.int .i64 s.x) ∧ w.cell? ⟨b, o + i * 6 + 1, none⟩ = some (.int .i64 s.y) ∧ w.cell? ⟨b, o + i * 6 + 2, none⟩ = some (.int .i64 s.lo) ∧ w.cell? ⟨b, o + i * 6 + 3, none⟩ = some (.int .i64 s.hi) ∧
    w.cell? ⟨b, o + i * 6 + 4, none⟩ = some (.int .i64 s.in_) ∧ w.cell? ⟨b, o + i * 6 + 5, none⟩ = some (.int .i64 s.out) := by
  have hr := h.cell i s hi
  exact ⟨hr 0 _ rfl, hr 1 _ rfl, hr 2 _ rfl, hr 3 _ rfl, hr 4 _ rfl, hr 5 _ rfl⟩

theorem BoxesAt.alloc {w : World} {a : Option Addr} {b o : Nat} {l : List Bx} (h : BoxesAt w a b o l) (ob : Obj) : BoxesAt (w.alloc ob) a b o l where
  here := h.here
  lt hl := by have := h.lt hl; simp; omega
  cell i s hi := World.rangeAt_alloc (h.cell i s hi) ob

theorem any_take {α : Type} (l : List α) (f : α → Bool) {k : Nat} {s : α} (h : l[k]? = some s) : (l.take (k + 1)).any f = ((l.take k).any f || f s) := by
  rw [List.take_add_one, h]; simp
theorem all_take {α : Type} (l : List α) (f : α → Bool) {k : Nat} {s : α} (h : l[k]? = some s) : (l.take (k + 1)).all f = ((l.take k).all f && f s) := by
  rw [List.take_add_one, h]; simp
theorem any_hit {α : Type} {l : List α} {f : α → Bool} {k : Nat} {s : α} (h : l[k]? = some s) (hf : f s = true) : l.any f = true :=
  List.any_eq_true.2 ⟨s, List.mem_of_getElem? h, hf⟩
theorem all_miss {α : Type} {l : List α} {f : α → Bool} {k : Nat} {s : α} (h : l[k]? = some s) (hf : f s = false) : l.all f = false := by
  cases e : l.all f with
  | false => rfl
  | true => have := List.all_eq_true.1 e s (List.mem_of_getElem? h); rw [hf] at this; cases this
/-- One of these has all of it, or it has nothing. -/
def foundB (m : List Bx) (a : Bx) : Bool := noneB a || m.any fun b => coverB b a
end Go.Proofs.YtijcdikekgmfoaaGreatDoor

namespace Go.Proofs.YtijcdikekgmfoaaGreatDoor
open Go.RowKit Go.ChangeMaps

/-- A cell as a key. -/
abbrev keyV (i j : Int) : Value := .agg #[.int .i64 i, .int .i64 j]

theorem keyV_inj {i j i' j' : Int} (h : keyV i j = keyV i' j') : i = i' ∧ j = j' := by simpa using h

/-- What is asked of the key's type. -/
structure CellKey (P : Program) (k : TypeId) : Prop where
  check : ∀ (w : World) (em : Bool) (i j : Int), (Instr.checkKey em 10000 k (keyV i j)).run P w = .ok () w
  equal : ∀ (w : World) (i j i' j' : Int), (Op.equal k (keyV i j) (keyV i' j')).run P w = .ok (decide (i = i' ∧ j = j')) w
  stays : ∀ (w : World) (i j : Int), (Instr.keyThatStays (keyV i j) (keyV i j)).run P w = .ok (keyV i j) w
  plain : ∃ fs, P.underlying k = some (.struct fs)

section
variable {P : Program} {k : TypeId}

theorem CellKey.ask (K : CellKey P k) (w : World) (i j : Int) : ∀ (es : List MapEntry) (m : Nat), (∀ e ∈ es, ∃ a b, e.key = keyV a b) →
    ((Instr.findAsking k (keyV i j) es m).run P w = .ok none w ∧ ∀ e ∈ es, e.key ≠ keyV i j) ∨
      ∃ n e, (Instr.findAsking k (keyV i j) es m).run P w = .ok (some (m + n, e.val)) w ∧ es[n]? = some e ∧ e.key = keyV i j
  | [], _, _ => Or.inl ⟨by simp [Instr.findAsking], by simp⟩
  | e :: es, m, hall => by
    obtain ⟨a, b, he⟩ := hall e (by simp)
    have hr := K.equal w i j a b
    by_cases h : i = a ∧ j = b
    · obtain ⟨rfl, rfl⟩ := h
      rw [decide_eq_true ⟨rfl, rfl⟩] at hr
      exact Or.inr ⟨0, e, by simp [Instr.findAsking, he, hr, Result.andThen], rfl, he⟩
    · rw [decide_eq_false h] at hr
      rcases K.ask w i j es (m + 1) (fun y hy => hall y (by simp [hy])) with ⟨h1, h2⟩ | ⟨n, e', h1, h2, h3⟩
      · refine Or.inl ⟨by simp [Instr.findAsking, he, hr, h1, Result.andThen], fun y hy => ?_⟩
        rcases List.mem_cons.1 hy with rfl | hy
        · rw [he]
          intro e1
          obtain ⟨rfl, rfl⟩ := keyV_inj e1
          exact h ⟨rfl, rfl⟩
        · exact h2 y hy
      · exact Or.inr ⟨n + 1, e', by simp [Instr.findAsking, he, hr, h1, Result.andThen, Nat.add_assoc, Nat.add_comm 1 n], by simpa using h2, h3⟩

theorem CellKey.find (K : CellKey P k) (w : World) (i j : Int) (es : List MapEntry) (hall : ∀ e ∈ es, ∃ a b, e.key = keyV a b) :
    ((Instr.findKey k (keyV i j) es).run P w = .ok none w ∧ ∀ e ∈ es, e.key ≠ keyV i j) ∨
      ∃ n e, (Instr.findKey k (keyV i j) es).run P w = .ok (some (n, e.val)) w ∧ es[n]? = some e ∧ e.key = keyV i j := by
  obtain ⟨fs, hk⟩ := K.plain
  cases es with
  | nil => exact Or.inl ⟨by simp [Instr.findKey, run_underlying hk, Instr.findNow, Result.andThen], by simp⟩
  | cons e es =>
    have hn : (Instr.findKey k (keyV i j) (e :: es)).run P w = (Instr.findAsking k (keyV i j) (e :: es)).run P w := by
      simp [Instr.findKey, run_underlying hk, Instr.findNow, Instr.sameNow, Result.andThen]
    rw [hn]
    rcases K.ask w i j (e :: es) 0 hall with h | ⟨n, e', h1, h2, h3⟩
    · exact Or.inl h
    · exact Or.inr ⟨n, e', by simpa using h1, h2, h3⟩
end

/-- Those of a cell. -/
def atC (l : List Bx) (i j : Int) : List Bx := l.filter fun s => (s.x == i) && (s.y == j)
/-- Their cells, one behind another. -/
def rowC (l : List Bx) : List Value := l.flatMap Bx.cells

theorem rowC_append (l m : List Bx) : rowC (l ++ m) = rowC l ++ rowC m := by simp [rowC]
theorem rowC_one (s : Bx) : rowC [s] = s.cells := by simp [rowC]
theorem atC_append (l : List Bx) (s : Bx) (i j : Int) : atC (l ++ [s]) i j = if s.x = i ∧ s.y = j then atC l i j ++ [s] else atC l i j := by
  unfold atC
  rw [List.filter_append]
  by_cases h : s.x = i ∧ s.y = j
  · rw [if_pos h]; simp [h.1, h.2]
  · rw [if_neg h]
    have : ((s.x == i) && (s.y == j)) = false := by
      rw [Bool.eq_false_iff]; intro e; simp at e; exact h e
    simp [this]
theorem atC_nil_of {l : List Bx} {i j : Int} (h : ∀ s ∈ l, ¬(s.x = i ∧ s.y = j)) : atC l i j = [] := by
  unfold atC
  rw [List.filter_eq_nil_iff]
  intro s hs
  simpa using h s hs
theorem rowC_length (l : List Bx) : (rowC l).length = l.length * 6 := by
  induction l with
  | nil => rfl
  | cons s r ih => simp [rowC] at ih ⊢; rw [ih]; omega
theorem rowC_get : ∀ (l : List Bx) (i : Nat) (s : Bx), l[i]? = some s → ∀ (j : Nat) (v : Value), s.cells[j]? = some v → (rowC l)[i * 6 + j]? = some v
  | [], i, s, h, _, _, _ => by simp at h
  | t :: r, 0, s, h, j, v, hv => by
    obtain rfl : t = s := by simpa using h
    have hj : j < 6 := by have := (List.getElem?_eq_some_iff.1 hv).1; simpa using this
    show (t.cells ++ rowC r)[0 * 6 + j]? = some v
    rw [List.getElem?_append_left (by simp; omega)]
    simpa using hv
  | t :: r, i + 1, s, h, j, v, hv => by
    show (t.cells ++ rowC r)[(i + 1) * 6 + j]? = some v
    rw [List.getElem?_append_right (by simp; omega)]
    have := rowC_get r i s (by simpa using h) j v hv
    rw [← this]
    congr 1
    simp
    omega

/-- The entries of such a map: by cells, the boxes of l; each cell's lie in a row of their own, from base on. -/
structure GEs (w : World) (base : Nat) (e : TypeId) (l : List Bx) (es : Array MapEntry) (clock : Nat) : Prop where
  row : ∀ x ∈ es.toList, ∃ i j, x.key = keyV i j ∧ w.ownsRow base e 6 x.val (atC l i j).length (rowC (atC l i j))
  all : ∀ s ∈ l, ∃ x ∈ es.toList, x.key = keyV s.x s.y
  keys : (es.toList.map (·.key)).Nodup
  apart : ∀ x ∈ es.toList, ∀ y ∈ es.toList, x.key ≠ y.key → x.val.ownBlock = none ∨ x.val.ownBlock ≠ y.val.ownBlock
  born : (es.toList.map (·.born)).Nodup
  old : ∀ x ∈ es.toList, x.born < clock

/-- Block b is a map, by cells, of the boxes of l. -/
def Groups (w : World) (b base : Nat) (e : TypeId) (l : List Bx) : Prop :=
  b < base ∧ ∃ es clock, w.heap[b]? = some (.map es clock) ∧ GEs w base e l es clock

theorem Groups_made (w : World) (e : TypeId) : Groups (w.alloc (.map #[] 0)) w.heap.size (w.heap.size + 1) e [] :=
  ⟨Nat.lt_succ_self _, #[], 0, (MapKept.heap_alloc w _).1, by simp, by simp, by simp, by simp, by simp, by simp⟩

theorem Groups.lt {w : World} {b base : Nat} {e : TypeId} {l : List Bx} (h : Groups w b base e l) : b < w.heap.size := by
  obtain ⟨_, es, clock, hb, _⟩ := h
  exact (Array.getElem?_eq_some_iff.1 hb).1

theorem GEs.kept {w w' : World} {base : Nat} {e : TypeId} {l : List Bx} {es : Array MapEntry} {clock : Nat} {row : Option Nat} (h : GEs w base e l es clock) (hg : w.grownBy w' row)
    (hr : ∀ x ∈ es.toList, x.val.ownBlock = none ∨ x.val.ownBlock ≠ row) : GEs w' base e l es clock :=
  { h with row := fun x hx => by obtain ⟨i, j, hk, ho⟩ := h.row x hx; exact ⟨i, j, hk, ho.kept hg (hr x hx)⟩ }

theorem owns_not {w : World} {base : Nat} {e : TypeId} {n b size : Nat} {v : Value} {xs : List Value} (h : w.ownsRow base e size v n xs) (hb : b < base) : v.ownBlock ≠ some b := fun e1 => by
  have := (h.lt b e1).1
  omega

theorem GEs.keptMap {w w' : World} {b base : Nat} {e : TypeId} {l : List Bx} {es : Array MapEntry} {clock : Nat} (h : GEs w base e l es clock) (hg : w.grownBy w' (some b)) (hb : b < base) : GEs w' base e l es clock :=
  h.kept hg fun x hx => by obtain ⟨i, j, _, ho⟩ := h.row x hx; exact Or.inr (owns_not ho hb)

theorem Groups.below {w w' : World} {b base : Nat} {e : TypeId} {l : List Bx} (h : Groups w b base e l) (hb : Below w.heap.size w w') : Groups w' b base e l := by
  have hlt := h.lt
  obtain ⟨hbb, es, clock, hb0, hE⟩ := h
  have hblk : ∀ i, i < w.heap.size → w'.heap[i]? = w.heap[i]? := fun i hi => hb.block i hi
  refine ⟨hbb, es, clock, (hblk b hlt).trans hb0, { hE with row := fun x hx => ?_ }⟩
  obtain ⟨i, j, hk, ho⟩ := hE.row x hx
  refine ⟨i, j, hk, ho.1, ?_⟩
  rcases ho.2 with h0 | ⟨g, cap, cur, e1, e2, e3, e4⟩
  · exact Or.inl h0
  · exact Or.inr ⟨g, cap, cur, e1, e2, (hblk g (Array.getElem?_eq_some_iff.1 e3).1).trans e3, e4⟩

/-- The way back: whatever was done to v's own row and to new blocks alone, a store at that entry of a slice that owns one box more, in v's row or in a new block, leaves a map of one box more. -/
def BackTo (w : World) (P : Program) (t : TypeId) (b base : Nat) (e : TypeId) (l : List Bx) (i j : Int) (v : Value) (c : Nat) : Prop :=
  ∀ (w1 : World) (v' : Value) (s : Bx), s.x = i → s.y = j → w.grownBy w1 v.ownBlock → w1.ownsRow base e 6 v' ((atC l i j).length + 1) (rowC (atC l i j) ++ s.cells) → (v'.ownBlock = v.ownBlock ∨ ∃ g, v'.ownBlock = some g ∧ w.heap.size ≤ g) →
    ∃ w2, (Instr.entryStore t (.map (some b)) (.int .i64 c) v').run P w1 = .ok () w2 ∧ Groups w2 b base e (l ++ [s]) ∧ w1.grownBy w2 (some b)

theorem setBlock_grown {w : World} {b : Nat} {es : Array MapEntry} {clock : Nat} (hb : w.heap[b]? = some (.map es clock)) (o : Obj) : w.grownBy (setBlock w b o) (some b) :=
  ⟨rfl, rfl, rfl, by simp [setBlock], fun i _ hi => heap_setBlock_other hb _ (fun e1 => hi (by rw [e1]))⟩

section
variable {P : Program} {k : TypeId} {w : World} {b base : Nat} {e : TypeId} {l : List Bx}

theorem GEs.back {t : TypeId} {es : Array MapEntry} {clock : Nat} (hbb : b < base) (hb : w.heap[b]? = some (.map es clock)) (hE : GEs w base e l es clock) (i j : Int) (n : Nat) (x0 : MapEntry) (f2 : es.toList[n]? = some x0) (f3 : x0.key = keyV i j) :
    BackTo w P t b base e l i j x0.val x0.born := by
  intro w1 v' s hsx hsy hg hown' hloc
  have hblt : b < w.heap.size := (Array.getElem?_eq_some_iff.1 hb).1
  have hm0 := List.mem_of_getElem? f2
  have hvb : x0.val.ownBlock ≠ some b := by obtain ⟨_, _, _, ho⟩ := hE.row x0 hm0; exact owns_not ho hbb
  have hv : ∀ x ∈ es.toList, x.key ≠ keyV i j → x.val.ownBlock = none ∨ x.val.ownBlock ≠ x0.val.ownBlock := fun x hx hne => hE.apart x hx x0 hm0 (by rw [f3]; exact hne)
  have hb1 : w1.heap[b]? = some (.map es clock) := (hg.block b hblt (fun e1 => hvb e1.symm)).trans hb
  have hself : atC (l ++ [s]) i j = atC l i j ++ [s] := by rw [atC_append, if_pos ⟨hsx, hsy⟩]
  have hnew : ∀ w2 : World, w2.ownsRow base e 6 v' ((atC l i j).length + 1) (rowC (atC l i j) ++ s.cells) → w2.ownsRow base e 6 v' (atC (l ++ [s]) i j).length (rowC (atC (l ++ [s]) i j)) := fun w2 h => by
    rw [hself, rowC_append, rowC_one]; simpa using h
  have old : ∀ x ∈ es.toList, x.key ≠ keyV i j → ∃ a c, x.key = keyV a c ∧ w1.ownsRow base e 6 x.val (atC (l ++ [s]) a c).length (rowC (atC (l ++ [s]) a c)) := fun x hx hne => by
    obtain ⟨a, c, hk, ho⟩ := hE.row x hx
    refine ⟨a, c, hk, ?_⟩
    rw [atC_append, if_neg (by intro e1; rw [hk, ← hsx, ← hsy, e1.1, e1.2] at hne; exact hne rfl)]
    exact ho.kept hg (hv x hx hne)
  have apart : ∀ x ∈ es.toList, x.key ≠ keyV i j → x.val.ownBlock = none ∨ x.val.ownBlock ≠ v'.ownBlock := fun x hx hne => by
    rcases hloc with e1 | ⟨g, e1, e2⟩
    · rw [e1]; exact hv x hx hne
    · cases hx' : x.val.ownBlock with
      | none => exact Or.inl rfl
      | some gx =>
        obtain ⟨a, c, _, ho⟩ := hE.row x hx
        have := (ho.lt gx hx').2
        refine Or.inr (fun e3 => ?_)
        rw [e1] at e3
        cases e3
        omega
  have apart' : ∀ x ∈ es.toList, x.key ≠ keyV i j → v'.ownBlock = none ∨ v'.ownBlock ≠ x.val.ownBlock := fun x hx hne => by
    rcases apart x hx hne with h | h
    · rw [h]; cases v'.ownBlock <;> simp
    · exact Or.inr (fun e1 => h e1.symm)
  have stay : ∀ (o : Obj) (u : Value) (n : Nat) (xs : List Value), w1.ownsRow base e 6 u n xs → (setBlock w1 b o).ownsRow base e 6 u n xs := fun o u n xs ho => ho.kept (setBlock_grown hb1 o) (Or.inr (owns_not ho hbb))
  have hj : es[n]? = some x0 := by simpa using f2
  have hlist : (es.modify n (fun e' => { e' with val := v' })).toList = es.toList.set n { x0 with val := v' } := by rw [Array.toList_modify, modify_eq_set _ _ _ _ f2]
  have keep : ∀ {β : Type} (f : MapEntry → β), f { x0 with val := v' } = f x0 → (es.toList.set n { x0 with val := v' }).map f = es.toList.map f := fun f hf => by
    rw [List.map_set, hf]
    apply List.ext_getElem?
    intro m
    by_cases e : n = m
    · subst e
      rw [List.getElem?_set_self (by simpa using (List.getElem?_eq_some_iff.1 f2).1)]
      simp [hj]
    · rw [List.getElem?_set_ne e]
  have hkeyl := keep (·.key) rfl
  have hbornl := keep (·.born) rfl
  have who : ∀ x ∈ es.toList.set n { x0 with val := v' }, x = { x0 with val := v' } ∨ (x ∈ es.toList ∧ x.key ≠ keyV i j) := by
    intro x hx
    obtain ⟨m, hm⟩ := List.mem_iff_getElem?.1 hx
    by_cases e : n = m
    · subst e
      rw [List.getElem?_set_self (List.getElem?_eq_some_iff.1 f2).1] at hm
      exact Or.inl (by simpa using hm.symm)
    · rw [List.getElem?_set_ne e] at hm
      refine Or.inr ⟨List.mem_of_getElem? hm, fun e1 => e ?_⟩
      have a1 : (es.toList.map (·.key))[n]? = some (keyV i j) := by rw [List.getElem?_map, f2]; simp [f3]
      have a2 : (es.toList.map (·.key))[m]? = some (keyV i j) := by rw [List.getElem?_map, hm]; simp [e1]
      exact (List.getElem?_inj (by have := (List.getElem?_eq_some_iff.1 f2).1; simpa using this) hE.keys).1 (a1.trans a2.symm)
  have hidx : es.findIdx? (fun e' => (e'.born : Int) == (x0.born : Int)) = some n := by
    have hnl : n < es.size := by simpa using (List.getElem?_eq_some_iff.1 f2).1
    rw [Array.findIdx?_eq_some_iff_getElem]
    refine ⟨hnl, by rw [Array.getElem?_eq_getElem hnl] at hj; cases hj; simp, fun m hm => ?_⟩
    have hml : m < es.size := by omega
    intro e0
    have e1 : es[m].born = x0.born := Int.ofNat.inj (eq_of_beq e0)
    have a1 : (es.toList.map (·.born))[n]? = some x0.born := by rw [List.getElem?_map, f2]; rfl
    have a2 : (es.toList.map (·.born))[m]? = some x0.born := by rw [List.getElem?_map]; simp [hml]; exact e1
    have := (List.getElem?_inj (by simpa using hml) hE.born).1 (a2.trans a1.symm)
    omega
  refine ⟨setBlock w1 b (.map (es.modify n (fun e' => { e' with val := v' })) clock), ?_, ?_, setBlock_grown hb1 _⟩
  · simp [Instr.entryStore, MapKept.run_getObj_map hb1, asInt, asIntOf, hidx, MapKept.run_setObj_map _ hb1, Result.andThen, setBlock]
  · refine ⟨hbb, _, _, heap_setBlock_same hb1 _, ?_, ?_, ?_, ?_, ?_, ?_⟩
    · intro x hx
      rw [hlist] at hx
      rcases who x hx with rfl | ⟨hx, hne⟩
      · exact ⟨i, j, f3, stay _ _ _ _ (hnew _ hown')⟩
      · obtain ⟨a, c, hk, ho⟩ := old x hx hne
        exact ⟨a, c, hk, stay _ _ _ _ ho⟩
    · have has : ∀ a, a ∈ es.toList.map (·.key) → ∃ x ∈ (es.modify n (fun e' => { e' with val := v' })).toList, x.key = a := fun a ha => by
        rw [← hkeyl] at ha
        obtain ⟨x, hx, rfl⟩ := List.mem_map.1 ha
        exact ⟨x, by rw [hlist]; exact hx, rfl⟩
      intro z hz
      simp only [List.mem_append, List.mem_singleton] at hz
      rcases hz with hz | rfl
      · obtain ⟨x, hx, hk⟩ := hE.all z hz
        exact has _ (List.mem_map.2 ⟨x, hx, hk⟩)
      · rw [hsx, hsy]
        exact has _ (List.mem_map.2 ⟨x0, List.mem_of_getElem? f2, f3⟩)
    · rw [hlist, hkeyl]; exact hE.keys
    · intro x hx y hy hne
      rw [hlist] at hx hy
      rcases who x hx with rfl | ⟨hx, hnx⟩
      · rcases who y hy with rfl | ⟨hy, hny⟩
        · exact absurd rfl hne
        · exact apart' y hy hny
      · rcases who y hy with rfl | ⟨hy, hny⟩
        · exact apart x hx hnx
        · exact hE.apart x hx y hy hne
    · rw [hlist, hbornl]; exact hE.born
    · intro x hx
      rw [hlist] at hx
      rcases who x hx with rfl | ⟨hx, _⟩
      · exact hE.old x0 hm0
      · exact hE.old x hx

/-- The entry of a cell, made where there is none, with the boxes of the cell, and the way back. -/
theorem Groups.entry {t E : TypeId} (K : CellKey P k) (ht : P.underlying t = some (.map k E)) (hz : (zeroValue E).run P w = .ok (.slice none 0 0) w) (h : Groups w b base e l) (i j : Int) :
    ∃ v c w1, (Instr.mapEntry t (.map (some b)) (keyV i j)).run P w = .ok (.tuple #[v, .int .i64 (c : Nat)]) w1 ∧ w1.ownsRow base e 6 v (atC l i j).length (rowC (atC l i j)) ∧ w.grownBy w1 (some b) ∧ w1.heap.size = w.heap.size ∧ BackTo w1 P t b base e l i j v c := by
  obtain ⟨hbb, es, clock, hb, hE⟩ := h
  have hkeys : ∀ x ∈ es.toList, ∃ a c, x.key = keyV a c := fun x hx => by obtain ⟨a, c, hk, _⟩ := hE.row x hx; exact ⟨a, c, hk⟩
  rcases K.find w i j es.toList hkeys with ⟨f1, f2⟩ | ⟨n, x0, f1, f2, f3⟩
  · have hnil : atC l i j = [] := atC_nil_of (fun s hs e1 => by obtain ⟨x, hx, hk⟩ := hE.all s hs; rw [e1.1, e1.2] at hk; exact f2 x hx hk)
    have hE1 : GEs (setBlock w b (.map (es.push ⟨keyV i j, .slice none 0 0, clock⟩) (clock + 1))) base e l (es.push ⟨keyV i j, .slice none 0 0, clock⟩) (clock + 1) := by
      have hk := hE.keptMap (setBlock_grown hb (.map (es.push ⟨keyV i j, .slice none 0 0, clock⟩) (clock + 1))) hbb
      refine ⟨?_, ?_, ?_, ?_, ?_, ?_⟩
      · intro x hx
        simp only [Array.toList_push, List.mem_append, List.mem_singleton] at hx
        rcases hx with hx | rfl
        · exact hk.row x hx
        · exact ⟨i, j, rfl, by rw [hnil]; exact World.ownsRow_nil _ _ _ _⟩
      · intro z hz
        obtain ⟨x, hx, hk⟩ := hE.all z hz
        exact ⟨x, by simp at hx ⊢; exact Or.inl hx, hk⟩
      · simp only [Array.toList_push, List.map_append, List.map_cons, List.map_nil]
        rw [List.nodup_append]
        refine ⟨hE.keys, by simp, ?_⟩
        intro a ha c hc
        simp only [List.mem_singleton] at hc
        subst hc
        obtain ⟨x, hx, rfl⟩ := List.mem_map.1 ha
        exact f2 x hx
      · intro x hx y hy hne
        simp only [Array.toList_push, List.mem_append, List.mem_singleton] at hx hy
        rcases hx with hx | rfl
        · rcases hy with hy | rfl
          · exact hE.apart x hx y hy hne
          · cases x.val.ownBlock <;> simp [Value.ownBlock]
        · exact Or.inl rfl
      · simp only [Array.toList_push, List.map_append, List.map_cons, List.map_nil]
        rw [List.nodup_append]
        refine ⟨hE.born, by simp, ?_⟩
        intro a ha c hc
        simp only [List.mem_singleton] at hc
        subst hc
        obtain ⟨x, hx, rfl⟩ := List.mem_map.1 ha
        exact Nat.ne_of_lt (hE.old x hx)
      · intro x hx
        simp only [Array.toList_push, List.mem_append, List.mem_singleton] at hx
        rcases hx with hx | rfl
        · have := hE.old x hx; omega
        · exact Nat.lt_succ_self _
    refine ⟨.slice none 0 0, clock, _, ?_, ?_, setBlock_grown hb (.map (es.push ⟨keyV i j, .slice none 0 0, clock⟩) (clock + 1)), by simp [setBlock], ?_⟩
    · simp [Instr.mapEntry, run_underlying ht, MapKept.run_getObj_map hb, K.check w false i j, f1, hz, MapKept.run_setObj_map _ hb, Result.andThen, setBlock, goInt]
    · rw [hnil]; exact World.ownsRow_nil _ _ _ _
    · exact hE1.back hbb (heap_setBlock_same hb _) i j es.size ⟨keyV i j, .slice none 0 0, clock⟩ (by simp) rfl
  · have hj : es[n]? = some x0 := by simpa using f2
    have hm0 := List.mem_of_getElem? f2
    have hsame : es.modify n (fun e' => { e' with key := keyV i j }) = es := by
      apply Array.toList_inj.1
      rw [Array.toList_modify, modify_eq_set _ _ _ _ f2]
      have e1 : ({ x0 with key := keyV i j } : MapEntry) = x0 := by rw [← f3]
      rw [e1]
      apply List.ext_getElem?
      intro m
      by_cases e : n = m
      · subst e
        rw [List.getElem?_set_self (List.getElem?_eq_some_iff.1 f2).1, f2]
      · rw [List.getElem?_set_ne e]
    have hE1 := hE.keptMap (setBlock_grown hb (.map es clock)) hbb
    refine ⟨x0.val, x0.born, setBlock w b (.map es clock), ?_, ?_, setBlock_grown hb _, by simp [setBlock], hE1.back hbb (heap_setBlock_same hb _) i j n x0 f2 f3⟩
    · simp [Instr.mapEntry, run_underlying ht, MapKept.run_getObj_map hb, K.check w false i j, f1, hj, f3, K.stays w i j, hsame, MapKept.run_setObj_map _ hb, Result.andThen, setBlock, goInt]
    · obtain ⟨a, c, hk, ho⟩ := hE1.row x0 hm0
      obtain ⟨rfl, rfl⟩ := keyV_inj (hk.symm.trans f3)
      exact ho

/-- The look-up hands over the boxes of the cell. -/
theorem Groups.look {t E : TypeId} (K : CellKey P k) (ht : P.underlying t = some (.map k E)) (hz : (zeroValue E).run P w = .ok (.slice none 0 0) w) (h : Groups w b base e l) (i j : Int) :
    ∃ v, (Instr.lookup t (.map (some b)) (keyV i j) false).run P w = .ok v w ∧ w.ownsRow base e 6 v (atC l i j).length (rowC (atC l i j)) := by
  obtain ⟨hbb, es, clock, hb, hE⟩ := h
  have hkeys : ∀ x ∈ es.toList, ∃ a c, x.key = keyV a c := fun x hx => by obtain ⟨a, c, hk, _⟩ := hE.row x hx; exact ⟨a, c, hk⟩
  rcases K.find w i j es.toList hkeys with ⟨f1, f2⟩ | ⟨n, x0, f1, f2, f3⟩
  · refine ⟨.slice none 0 0, ?_, ?_⟩
    · simp [Instr.lookup, run_underlying ht, MapKept.run_getObj_map hb, K.check w _ i j, f1, hz, Result.andThen]
    · rw [atC_nil_of (fun s hs e1 => by obtain ⟨x, hx, hk⟩ := hE.all s hs; rw [e1.1, e1.2] at hk; exact f2 x hx hk)]
      exact World.ownsRow_nil _ _ _ _
  · obtain ⟨a, c, hk, ho⟩ := hE.row x0 (List.mem_of_getElem? f2)
    obtain ⟨rfl, rfl⟩ := keyV_inj (hk.symm.trans f3)
    refine ⟨x0.val, ?_, ho⟩
    simp [Instr.lookup, run_underlying ht, MapKept.run_getObj_map hb, K.check w _ a c, f1, Result.andThen]
end

/-- The look-up at the operation. -/
theorem wpList_lookup_cells {P : Program} (w : World) {ops : Array Oper} {rest : List Oper} {o : Oper} {a : Act} {Q : Exit → Act → World → Prop}
    (hg : o.guard = none) (m x : Operand) (t : TypeId) (hop : o.op = Op.lookup t m x false)
    (k E e : TypeId) (K : CellKey P k) (ht : P.underlying t = some (.map k E)) (hz : (zeroValue E).run P w = .ok (.slice none 0 0) w) (base b : Nat) (l : List Bx)
    (hm : a.eval m = .map (some b)) (hown : Groups w b base e l) (i j : Int) (hx : a.eval x = keyV i j)
    (hK : ∀ v, w.ownsRow base e 6 v (atC l i j).length (rowC (atC l i j)) → wpList P ops Q rest (a.put o.dst v) w) :
    wpList P ops Q (o :: rest) a w := by
  refine wpList_plain hg fun K' hK' => ?_
  obtain ⟨v, hrun, ho⟩ := hown.look K ht hz i j
  unfold Oper.wp
  simp [execOp, hop, hm, hx, hrun, Result.andThen]
  exact hK' _ _ (hK v ho)

/-- An entry at the operation. -/
theorem wpList_mapEntry_cells {P : Program} (w : World) {ops : Array Oper} {rest : List Oper} {o : Oper} {a : Act} {Q : Exit → Act → World → Prop}
    (hg : o.guard = none) (m x : Operand) (t : TypeId) (hop : o.op = Op.mapEntry t m x)
    (k E e : TypeId) (K : CellKey P k) (ht : P.underlying t = some (.map k E)) (hz : (zeroValue E).run P w = .ok (.slice none 0 0) w) (base b : Nat) (l : List Bx)
    (hm : a.eval m = .map (some b)) (hown : Groups w b base e l) (i j : Int) (hx : a.eval x = keyV i j)
    (hK : ∀ (v : Value) (c : Nat) (w1 : World), w1.ownsRow base e 6 v (atC l i j).length (rowC (atC l i j)) → w.grownBy w1 (some b) → w1.heap.size = w.heap.size → BackTo w1 P t b base e l i j v c → wpList P ops Q rest (a.put o.dst (.tuple #[v, .int .i64 c])) w1) :
    wpList P ops Q (o :: rest) a w := by
  refine wpList_plain hg fun K' hK' => ?_
  obtain ⟨v, c, w1, hrun, h1, h2, h3, h4⟩ := hown.entry K ht hz i j
  unfold Oper.wp
  simp [execOp, hop, hm, hx, hrun, Result.andThen]
  exact hK' _ _ (hK v c w1 h1 h2 h3 h4)

/-- The store at the operation, by the way back. -/
theorem wpList_entryStore_cells {P : Program} (w : World) {ops : Array Oper} {rest : List Oper} {o : Oper} {a : Act} {Q : Exit → Act → World → Prop}
    (hg : o.guard = none) (m x v : Operand) (t : TypeId) (hop : o.op = Op.entryStore t m x v)
    {w0 : World} {base : Nat} {e : TypeId} {b : Nat} {l : List Bx} {i j : Int} {u v' : Value} {c : Nat} (s : Bx)
    (hback : BackTo w0 P t b base e l i j u c) (hm : a.eval m = .map (some b)) (hx : a.eval x = .int .i64 c) (hv : a.eval v = v') (hsx : s.x = i) (hsy : s.y = j)
    (hgr : w0.grownBy w u.ownBlock) (hown' : w.ownsRow base e 6 v' ((atC l i j).length + 1) (rowC (atC l i j) ++ s.cells)) (hloc : v'.ownBlock = u.ownBlock ∨ ∃ g, v'.ownBlock = some g ∧ w0.heap.size ≤ g)
    (hK : ∀ w2, Groups w2 b base e (l ++ [s]) → w.grownBy w2 (some b) → wpList P ops Q rest (a.put o.dst undef) w2) :
    wpList P ops Q (o :: rest) a w := by
  refine wpList_plain hg fun K' hK' => ?_
  obtain ⟨w2, hrun, r1, r2⟩ := hback w v' s hsx hsy hgr hown' hloc
  unfold Oper.wp
  simp [execOp, hop, hm, hx, hv, hrun, Result.andThen]
  exact hK' _ _ (hK w2 r1 r2)
end Go.Proofs.YtijcdikekgmfoaaGreatDoor

namespace Go.Proofs.YtijcdikekgmfoaaGreatDoor
open Go.RowKit

/-- The box of a step. -/
def tubeAt (F : List (Int × Int)) (l : List Stp) (k : Nat) : Bx := ⟨(l.getD k .zero).x, (l.getD k .zero).y, (l.getD k .zero).lo, (l.getD k .zero).hi, (F.getD k (0, 0)).1, (F.getD (k + 1) (0, 0)).2 - 1⟩
/-- The first k boxes. -/
def tubeTo (F : List (Int × Int)) (l : List Stp) (k : Nat) : List Bx := (List.range k).map (tubeAt F l)
theorem tubeTo_length (F : List (Int × Int)) (l : List Stp) (k : Nat) : (tubeTo F l k).length = k := by simp [tubeTo]
theorem tubeTo_succ (F : List (Int × Int)) (l : List Stp) (k : Nat) : tubeTo F l (k + 1) = tubeTo F l k ++ [tubeAt F l k] := by simp [tubeTo, List.range_succ]
/-- The tube. -/
def tubeL (q s fr b : Int) (l : List Stp) : List Bx := if flyB q s fr b l then tubeTo (flyL q s fr b l) l l.length else []

theorem bwd_range {q s fr b : Int} {l : List Stp} (h : pathB q s fr b l = true) (n j : Nat) : 0 ≤ (bwdS q s fr b l n j).1 ∧ (bwdS q s fr b l n j).2 ≤ 10000 := by
  cases j with
  | zero => exact fwd_range h n
  | succ j =>
    have hf := fwd_range h (n - (j + 1))
    have h1 := mxB_le (fwdS q s fr b l (n - (j + 1))).1 ((bwdS q s fr b l n j).1 - mostB s l (n - (j + 1)))
    have h2 := mnB_le (fwdS q s fr b l (n - (j + 1))).2 ((bwdS q s fr b l n j).2 - q)
    simp only [bwdS]
    omega
/-- The spans lie within 0 .. 10000. -/
theorem fly_range (q s fr b : Int) (l : List Stp) (k : Nat) : 0 ≤ ((flyL q s fr b l).getD k (0, 0)).2 ∧ ((flyL q s fr b l).getD k (0, 0)).2 ≤ 10000 := by
  cases hp : pathB q s fr b l with
  | false => unfold flyL; rw [hp]; simp
  | true =>
    cases hs : spanB q s fr b l with
    | false => unfold flyL spansL; rw [hp, hs]; simp
    | true =>
      unfold flyL spansL
      rw [hp, hs]
      simp only [if_true]
      by_cases hk : k < l.length + 1
      · have e : ((List.range (l.length + 1)).map fun k => bwdS q s fr b l l.length (l.length - k)).getD k (0, 0) = bwdS q s fr b l l.length (l.length - k) := by
          rw [List.getD_eq_getElem?_getD]
          simp [hk]
        rw [e]
        have h1 := bwd_range hp l.length (l.length - k)
        have h2 : (bwdS q s fr b l l.length (l.length - k)).1 ≤ (bwdS q s fr b l l.length (l.length - k)).2 := by
          unfold spanB at hs
          have h3 := (Bool.and_eq_true_iff.1 hs).2
          simp only [bwdTo, List.all_eq_true, List.mem_range, someB, decide_eq_true_eq] at h3
          exact h3 _ (by omega)
        omega
      · have e : ((List.range (l.length + 1)).map fun k => bwdS q s fr b l l.length (l.length - k)).getD k (0, 0) = (0, 0) := by
          rw [List.getD_eq_getElem?_getD]
          simp [hk]
        rw [e]
        simp
end Go.Proofs.YtijcdikekgmfoaaGreatDoor

namespace Go.Proofs.YtijcdikekgmfoaaGreatDoor
open Go.RowKit

section
variable {q s fr b : Int} {l : List Stp} {k : Nat}
theorem left_low (hk : k < l.length) (x y nw : Int) (j : Nat) (hj : j ≤ l.length - k) : lowB (leftFr fr l k nw) (leftL l k x y nw) j = if j = 0 then x else if j = 1 then mxB (lowB fr l (k + 1)) (nw + 1) else lowB fr l (k + j) := by
  unfold lowB
  rw [leftL_length]
  by_cases h : j < l.length - k
  · rw [if_pos h, leftL_getD x y nw (by omega)]
    by_cases h0 : j = 0
    · rw [if_pos h0, if_pos h0]
    · rw [if_neg h0, if_neg h0]
      by_cases h1 : j = 1
      · subst h1
        rw [if_pos rfl, if_pos rfl, if_pos (by omega)]
      · rw [if_neg h1, if_neg h1, if_pos (by omega)]
  · rw [if_neg h, if_neg (by omega)]
    unfold leftFr afterFr
    rw [List.length_drop]
    by_cases h1 : j = 1
    · rw [if_pos h1, if_neg (by omega), if_neg (by omega)]
    · rw [if_neg h1, if_pos (by omega), if_neg (by omega)]
theorem left_high (hk : k < l.length) (x y nw : Int) (j : Nat) (hj : j ≤ l.length - k) : highB b (leftL l k x y nw) j = if j = 0 then y else highB b l (k + j) := by
  unfold highB
  rw [leftL_length]
  by_cases h : j < l.length - k
  · have h' : k + j < l.length := by omega
    rw [if_pos h, leftL_getD x y nw h', if_pos h']
    by_cases h0 : j = 0
    · simp [h0]
    · by_cases h1 : j = 1
      · subst h1; simp
      · simp [h0, h1]
  · have h0 : ¬ j = 0 := by omega
    have h' : ¬ k + j < l.length := by omega
    rw [if_neg h, if_neg h0, if_neg h']
theorem left_most (x y nw : Int) (j : Nat) (hj : j < l.length - k) : mostB s (leftL l k x y nw) j = mostB s l (k + j) := by
  unfold mostB
  rw [leftL_getD x y nw (by omega)]
  by_cases h0 : j = 0
  · subst h0; rw [if_pos rfl, Nat.add_zero]
  · rw [if_neg h0]
    by_cases h1 : j = 1
    · subst h1; rw [if_pos rfl]
    · rw [if_neg h1]
theorem left_keeps (hk : k < l.length) (x y nw : Int) (z : Nat → Int) : Keeps q s (leftFr fr l k nw) b (leftL l k x y nw) z 0 (l.length - k) ↔
    (x ≤ z 0 ∧ z 0 ≤ y) ∧ nw + 1 ≤ z 1 ∧ (∀ j, 1 ≤ j → j ≤ l.length - k → lowB fr l (k + j) ≤ z j ∧ z j ≤ highB b l (k + j)) ∧ ∀ j, j < l.length - k → q ≤ z (j + 1) - z j ∧ z (j + 1) - z j ≤ mostB s l (k + j) := by
  unfold Keeps
  constructor
  · rintro ⟨h1, h2⟩
    have a0 := h1 0 (by omega) (by omega)
    have a1 := h1 1 (by omega) (by omega)
    rw [left_low hk x y nw 0 (by omega), left_high hk x y nw 0 (by omega), if_pos rfl, if_pos rfl] at a0
    rw [left_low hk x y nw 1 (by omega), if_neg (by omega), if_pos rfl] at a1
    have m1 := mxB_le (lowB fr l (k + 1)) (nw + 1)
    refine ⟨a0, by omega, fun j hj hj' => ?_, fun j hj => ?_⟩
    · have a := h1 j (by omega) hj'
      have hj0 : ¬ j = 0 := by omega
      rw [left_low hk x y nw j hj', left_high hk x y nw j hj', if_neg hj0, if_neg hj0] at a
      by_cases e : j = 1
      · subst e
        rw [if_pos rfl] at a
        omega
      · rw [if_neg e] at a
        exact a
    · have a := h2 j (by omega) hj
      rwa [left_most x y nw j hj] at a
  · rintro ⟨h0, h1, h2, h3⟩
    refine ⟨fun j _ hj' => ?_, fun j _ hj => ?_⟩
    · rw [left_low hk x y nw j hj', left_high hk x y nw j hj']
      by_cases e0 : j = 0
      · subst e0; rw [if_pos rfl, if_pos rfl]; exact h0
      · rw [if_neg e0, if_neg e0]
        have a := h2 j (by omega) hj'
        by_cases e : j = 1
        · subst e
          rw [if_pos rfl]
          have m1 := mxB_le (lowB fr l (k + 1)) (nw + 1)
          omega
        · rw [if_neg e]
          exact a
    · rw [left_most x y nw j hj]
      exact h3 j hj
theorem left_fly (hp : pathB q s fr b l = true) (hk : k < l.length) {x y nw : Int} (hx : 0 ≤ x) (hy : y ≤ 10000) (hn : 0 ≤ nw) : spanB q s (leftFr fr l k nw) b (leftL l k x y nw) = true ↔ ∃ z, Keeps q s (leftFr fr l k nw) b (leftL l k x y nw) z 0 (l.length - k) := by
  have hW := left_wide hp hk hx hy hn
  rw [hW.span_fwd, leftL_length]
  exact fly_iff hW.quick _
end

/-- A tube within another one, whose flights are flights there, from a place on. -/
theorem small_sub {q s fr b q' s' fr' b' : Int} {m l : List Stp} {k : Nat} (hm : flyB q s fr b m = true) (hl : flyB q' s' fr' b' l = true) (hk : m.length + k ≤ l.length)
    (hg : ∀ j, j < m.length → (m.getD j .zero).x = (l.getD (k + j) .zero).x ∧ (m.getD j .zero).y = (l.getD (k + j) .zero).y ∧ (m.getD j .zero).lo = (l.getD (k + j) .zero).lo ∧ (m.getD j .zero).hi = (l.getD (k + j) .zero).hi)
    (hz : ∀ j, j ≤ m.length → ∀ t, inP t (spanAt q s fr b m m.length j) → inP t (spanAt q' s' fr' b' l l.length (k + j))) : smallB (tubeL q s fr b m) (tubeL q' s' fr' b' l) = true := by
  obtain ⟨p1, p2, _⟩ := flyL_at hm
  unfold smallB
  rw [List.all_eq_true]
  intro a ha
  rw [Bool.or_eq_true]
  right
  unfold tubeL at ha
  rw [if_pos hm] at ha
  obtain ⟨j, hj, rfl⟩ := List.mem_map.1 ha
  rw [List.mem_range] at hj
  rw [List.any_eq_true]
  refine ⟨tubeAt (flyL q' s' fr' b' l) l (k + j), ?_, ?_⟩
  · unfold tubeL
    rw [if_pos hl]
    exact List.mem_map.2 ⟨k + j, List.mem_range.2 (by omega), rfl⟩
  · obtain ⟨g1, g2, g3, g4⟩ := hg j hj
    have gd : ∀ {q s fr b : Int} {l : List Stp}, flyB q s fr b l = true → ∀ i, i ≤ l.length → (flyL q s fr b l).getD i (0, 0) = spanAt q s fr b l l.length i := fun h i hi => by
      rw [List.getD_eq_getElem?_getD, map_at h hi]; rfl
    have n1 := span_some (fun k => most_quick p1 k) p2 (k := j)
    have n2 := span_some (fun k => most_quick p1 k) p2 (k := j + 1)
    have z1 := (hz j (by omega) _ (show inP (spanAt q s fr b m m.length j).1 _ from ⟨Int.le_refl _, n1⟩)).1
    have z2 := (hz (j + 1) (by omega) _ (show inP (spanAt q s fr b m m.length (j + 1)).2 _ from ⟨n2, Int.le_refl _⟩)).2
    unfold coverB tubeAt
    simp only [gd hm j (by omega), gd hm (j + 1) (by omega), gd hl (k + j) (by omega), show k + j + 1 = k + (j + 1) by omega, gd hl (k + (j + 1)) (by omega), g1, g2, g3, g4, Bool.and_eq_true, beq_iff_eq, decide_eq_true_eq]
    exact ⟨⟨⟨⟨⟨trivial, trivial⟩, Int.le_refl _⟩, Int.le_refl _⟩, z1⟩, by omega⟩
theorem fly_win {q s fr b : Int} {l : List Stp} (h : flyB q s fr b l = true) {k : Nat} (hk : k ≤ l.length) : lowB fr l k ≤ (spanAt q s fr b l l.length k).1 ∧ (spanAt q s fr b l l.length k).1 ≤ (spanAt q s fr b l l.length k).2 ∧ (spanAt q s fr b l l.length k).2 ≤ highB b l k := by
  obtain ⟨p1, p2, _⟩ := flyL_at h
  have hm : ∀ k, q ≤ mostB s l k := fun k => most_quick p1 k
  have n1 := span_some hm p2 (k := k)
  exact ⟨(span_win hm p2 hk ⟨Int.le_refl _, n1⟩).1, n1, (span_win hm p2 hk ⟨n1, Int.le_refl _⟩).2⟩
theorem small_none (l : List Bx) : smallB [] l = true := rfl

section
variable {q s fr b : Int} {l : List Stp} {st nw : Int}
theorem restA_is {en : Int} (h : (restA q s fr b l st en nw).ok = true) : pathB q s fr b l = true ∧ (0 ≤ st ∧ st.toNat < l.length) ∧ (0 ≤ nw ∧ nw ≤ 10000) ∧ (0 ≤ en ∧ en ≤ nw) ∧
    restA q s fr b l st en nw = { q := q, s := s, fr := leftFr fr l st.toNat nw, b := b, l := leftL l st.toNat (mxB (l.getD st.toNat .zero).fr en) (mnB (l.getD st.toNat .zero).by_ en) nw, ok := true } ∧
    spanB q s (leftFr fr l st.toNat nw) b (leftL l st.toNat (mxB (l.getD st.toNat .zero).fr en) (mnB (l.getD st.toNat .zero).by_ en) nw) = true := by
  unfold restA at h ⊢
  split at h
  · rename_i hc
    rw [if_pos hc]
    obtain ⟨h1, h2⟩ := canA_ok h
    simp only [inStepB, Bool.and_eq_true, inB_iff] at hc
    obtain ⟨⟨⟨hp, hst⟩, hnw⟩, hen⟩ := hc
    exact ⟨hp, ⟨hst.1, by omega⟩, hnw, hen, h2, h1⟩
  · simp [Ans.no] at h
theorem seenA_is (h : (seenA q s fr b l st nw).ok = true) : flyB q s fr b l = true ∧ (0 ≤ st ∧ st.toNat < l.length) ∧ (0 ≤ nw ∧ nw ≤ 10000) ∧
    seenA q s fr b l st nw = { q := q, s := s, fr := leftFr fr l st.toNat nw, b := b, l := leftL l st.toNat (spanOf q s fr b l st.toNat).1 (mnB (spanOf q s fr b l st.toNat).2 nw) nw, ok := true } ∧
    spanB q s (leftFr fr l st.toNat nw) b (leftL l st.toNat (spanOf q s fr b l st.toNat).1 (mnB (spanOf q s fr b l st.toNat).2 nw) nw) = true := by
  unfold seenA at h ⊢
  split at h
  · rename_i hc
    rw [if_pos hc]
    obtain ⟨h1, h2⟩ := canA_ok h
    simp only [inStepB, Bool.and_eq_true, inB_iff] at hc
    obtain ⟨⟨⟨hp, hst⟩, hnw⟩, hsp⟩ := hc
    exact ⟨by unfold flyB; rw [hp, hsp]; rfl, ⟨hst.1, by omega⟩, hnw, h2, h1⟩
  · simp [Ans.no] at h
theorem stepwin (hp : pathB q s fr b l = true) {k : Nat} (hk : k < l.length) : lowB fr l k = (l.getD k .zero).fr ∧ highB b l k = (l.getD k .zero).by_ ∧ 0 ≤ (l.getD k .zero).fr ∧ (l.getD k .zero).by_ ≤ 10000 := by
  have hb := bounds_ok hp k
  unfold lowB highB at hb ⊢
  rw [if_pos hk, if_pos hk] at hb
  rw [if_pos hk, if_pos hk]
  exact ⟨rfl, rfl, hb⟩

/-- What is left is ok; it was entered when it was; it is left behind now. -/
theorem rest_ends {en : Int} (h : (restA q s fr b l st en nw).ok = true) :
    flyB (restA q s fr b l st en nw).q (restA q s fr b l st en nw).s (restA q s fr b l st en nw).fr (restA q s fr b l st en nw).b (restA q s fr b l st en nw).l = true ∧ 1 ≤ (restA q s fr b l st en nw).l.length ∧
    spanAt (restA q s fr b l st en nw).q (restA q s fr b l st en nw).s (restA q s fr b l st en nw).fr (restA q s fr b l st en nw).b (restA q s fr b l st en nw).l (restA q s fr b l st en nw).l.length 0 = (en, en) ∧
    nw < (spanAt (restA q s fr b l st en nw).q (restA q s fr b l st en nw).s (restA q s fr b l st en nw).fr (restA q s fr b l st en nw).b (restA q s fr b l st en nw).l (restA q s fr b l st en nw).l.length 1).1 := by
  obtain ⟨hp, hk, hnw, hen, he, hsp⟩ := restA_is h
  obtain ⟨_, _, w1, w2⟩ := stepwin hp hk.2
  have m1 := mxB_le (l.getD st.toNat .zero).fr en
  have m2 := mnB_le (l.getD st.toNat .zero).by_ en
  have hpl := left_path hp hk.2 (x := mxB (l.getD st.toNat .zero).fr en) (y := mnB (l.getD st.toNat .zero).by_ en) (nw := nw) (by omega) (by omega) hnw.1 hsp
  rw [he]
  dsimp only
  have hfl : flyB q s (leftFr fr l st.toNat nw) b (leftL l st.toNat (mxB (l.getD st.toNat .zero).fr en) (mnB (l.getD st.toNat .zero).by_ en) nw) = true := by unfold flyB; rw [hpl, hsp]; rfl
  have hlen := leftL_length l st.toNat (mxB (l.getD st.toNat .zero).fr en) (mnB (l.getD st.toNat .zero).by_ en) nw
  have a1 := fly_win hfl (k := 0) (by omega)
  have a3 := fly_win hfl (k := 1) (by omega)
  rw [left_low hk.2 _ _ nw 0 (by omega), left_high hk.2 _ _ nw 0 (by omega), if_pos rfl, if_pos rfl] at a1
  rw [left_low hk.2 _ _ nw 1 (by omega), if_neg (by omega), if_pos rfl] at a3
  have m3 := mxB_le (lowB fr l (st.toNat + 1)) (nw + 1)
  exact ⟨hfl, by omega, Prod.ext (by dsimp only; omega) (by dsimp only; omega), by omega⟩

/-- What is left for anybody who is there: it is ok; all who may be there can go on, within its tube; its tube lies within the path's. -/
theorem seen_all (h : (seenA q s fr b l st nw).ok = true) :
    flyB (seenA q s fr b l st nw).q (seenA q s fr b l st nw).s (seenA q s fr b l st nw).fr (seenA q s fr b l st nw).b (seenA q s fr b l st nw).l = true ∧
    (∀ t, inP t (spanAt (seenA q s fr b l st nw).q (seenA q s fr b l st nw).s (seenA q s fr b l st nw).fr (seenA q s fr b l st nw).b (seenA q s fr b l st nw).l (seenA q s fr b l st nw).l.length 0) → (restA q s fr b l st t nw).ok = true ∧
      smallB (tubeL (restA q s fr b l st t nw).q (restA q s fr b l st t nw).s (restA q s fr b l st t nw).fr (restA q s fr b l st t nw).b (restA q s fr b l st t nw).l) (tubeL (seenA q s fr b l st nw).q (seenA q s fr b l st nw).s (seenA q s fr b l st nw).fr (seenA q s fr b l st nw).b (seenA q s fr b l st nw).l) = true) ∧
    smallB (tubeL (seenA q s fr b l st nw).q (seenA q s fr b l st nw).s (seenA q s fr b l st nw).fr (seenA q s fr b l st nw).b (seenA q s fr b l st nw).l) (tubeL q s fr b l) = true := by
  obtain ⟨hfp, hk, hnw, he, hsp⟩ := seenA_is h
  obtain ⟨hp, hpf, _⟩ := flyL_at hfp
  rw [he]
  obtain ⟨k, hkk⟩ : ∃ k, st.toNat = k := ⟨_, rfl⟩
  rw [hkk] at hk hsp ⊢
  have hsb : spanB q s fr b l = true := by unfold flyB at hfp; rw [Bool.and_eq_true] at hfp; exact hfp.2
  have e0 : spanOf q s fr b l k = spanAt q s fr b l l.length k := rfl
  rw [e0] at hsp ⊢
  have hqm : ∀ i, q ≤ mostB s l i := fun i => most_quick hp i
  have hn := span_some hqm hpf (k := k)
  have m2 := mnB_le (spanAt q s fr b l l.length k).2 nw
  have x0 : 0 ≤ (spanAt q s fr b l l.length k).1 := span_lo hp hsb (by omega)
  obtain ⟨X, hX⟩ : ∃ X, (spanAt q s fr b l l.length k).1 = X := ⟨_, rfl⟩
  obtain ⟨Y, hY⟩ : ∃ Y, mnB (spanAt q s fr b l l.length k).2 nw = Y := ⟨_, rfl⟩
  rw [hX, hY] at hsp ⊢
  dsimp only
  have hpl := left_path hp hk.2 (x := X) (y := Y) (nw := nw) (by omega) (by omega) hnw.1 hsp
  have hfl : flyB q s (leftFr fr l k nw) b (leftL l k X Y nw) = true := by unfold flyB; rw [hpl, hsp]; rfl
  have hlen := leftL_length l k X Y nw
  obtain ⟨p1, p2, _⟩ := flyL_at hfl
  have hqm' : ∀ i, q ≤ mostB s (leftL l k X Y nw) i := fun i => most_quick p1 i
  refine ⟨hfl, fun t ht => ?_, ?_⟩
  · -- a flight of what is left for anybody that was entered at t
    obtain ⟨z, hz, rfl⟩ := (span_iff hqm' p2 (k := 0) (by omega) t).1 ht
    rw [hlen] at hz
    have hz' := (left_keeps hk.2 X Y nw z).1 hz
    have hin : inP (z 0) (spanAt q s fr b l l.length k) := ⟨by omega, by omega⟩
    have hw := span_win hqm hpf (k := k) (by omega) hin
    obtain ⟨w1, w2, w3, w4⟩ := stepwin hp hk.2
    have ex : mxB (l.getD k .zero).fr (z 0) = z 0 := by have := mxB_le (l.getD k .zero).fr (z 0); omega
    have ey : mnB (l.getD k .zero).by_ (z 0) = z 0 := by have := mnB_le (l.getD k .zero).by_ (z 0); omega
    have hzr : Keeps q s (leftFr fr l k nw) b (leftL l k (z 0) (z 0) nw) z 0 (l.length - k) := (left_keeps hk.2 (z 0) (z 0) nw z).2 ⟨⟨Int.le_refl _, Int.le_refl _⟩, hz'.2⟩
    have hsr : spanB q s (leftFr fr l k nw) b (leftL l k (z 0) (z 0) nw) = true := (left_fly hp hk.2 (by omega) (by omega) hnw.1).2 ⟨z, hzr⟩
    have hr : restA q s fr b l st (z 0) nw = { q := q, s := s, fr := leftFr fr l k nw, b := b, l := leftL l k (z 0) (z 0) nw, ok := true } := by
      unfold restA
      rw [if_pos (by simp only [inStepB, Bool.and_eq_true, inB_iff]; exact ⟨⟨⟨hp, by omega⟩, by omega⟩, by omega⟩), hkk, ex, ey]
      unfold canA
      rw [if_pos hsr]
    rw [hr]
    refine ⟨rfl, ?_⟩
    dsimp only
    have hpr := left_path hp hk.2 (x := z 0) (y := z 0) (nw := nw) (by omega) (by omega) hnw.1 hsr
    have hfr : flyB q s (leftFr fr l k nw) b (leftL l k (z 0) (z 0) nw) = true := by unfold flyB; rw [hpr, hsr]; rfl
    have hlr := leftL_length l k (z 0) (z 0) nw
    obtain ⟨r1, r2, _⟩ := flyL_at hfr
    refine small_sub (k := 0) hfr hfl (by omega) (fun j hj => ?_) (fun j hj t ht => ?_)
    · rw [Nat.zero_add]
      obtain ⟨a1, a2, a3, a4⟩ := leftL_same (l := l) (k := k) (z 0) (z 0) nw (j := j) (by omega)
      obtain ⟨b1, b2, b3, b4⟩ := leftL_same (l := l) (k := k) X Y nw (j := j) (by omega)
      rw [a1, a2, a3, a4, b1, b2, b3, b4]
      exact ⟨rfl, rfl, rfl, rfl⟩
    · rw [Nat.zero_add]
      obtain ⟨y, hy, rfl⟩ := (span_iff (fun i => most_quick r1 i) r2 (k := j) (by omega) t).1 ht
      rw [hlr] at hy
      have hy' := (left_keeps hk.2 (z 0) (z 0) nw y).1 hy
      refine (span_iff hqm' p2 (k := j) (by omega) _).2 ⟨y, ?_, rfl⟩
      rw [hlen]
      exact (left_keeps hk.2 X Y nw y).2 ⟨by omega, hy'.2⟩
  · refine small_sub (k := k) hfl hfp (by omega) (fun j hj => ?_) (fun j hj t ht => ?_)
    · exact leftL_same (l := l) (k := k) X Y nw (j := j) (by omega)
    · obtain ⟨y, hy, rfl⟩ := (span_iff hqm' p2 (k := j) (by omega) t).1 ht
      rw [hlen] at hy
      have hy' := (left_keeps hk.2 X Y nw y).1 hy
      have hin : inP (y 0) (spanAt q s fr b l l.length k) := ⟨by omega, by omega⟩
      obtain ⟨x, hx, hxk⟩ := (span_iff hqm hpf (k := k) (by omega) _).1 hin
      refine (span_iff hqm hpf (k := k + j) (by omega) _).2 ⟨fun i => if i ≤ k then x i else y (i - k), ⟨fun i _ hi => ?_, fun i _ hi => ?_⟩, ?_⟩
      all_goals dsimp only
      · by_cases hik : i ≤ k
        · rw [if_pos hik]; exact hx.1 i (by omega) hi
        · rw [if_neg hik]
          have := hy'.2.2.1 (i - k) (by omega) (by omega)
          rwa [show k + (i - k) = i by omega] at this
      · by_cases hik : i ≤ k
        · by_cases hik1 : i + 1 ≤ k
          · rw [if_pos hik, if_pos hik1]; exact hx.2 i (by omega) hi
          · obtain rfl : i = k := by omega
            rw [if_pos (Nat.le_refl _), if_neg (by omega), hxk]
            have := hy'.2.2.2 0 (by omega)
            rwa [show i + 1 - i = 0 + 1 by omega, show i = i + 0 by omega]
        · rw [if_neg hik, if_neg (by omega)]
          have := hy'.2.2.2 (i - k) (by omega)
          rwa [show k + (i - k) = i by omega, show i - k + 1 = i + 1 - k by omega] at this
      · by_cases hj0 : j = 0
        · subst hj0; rw [if_pos (by omega)]; rw [Nat.add_zero]; exact hxk
        · rw [if_neg (by omega)]; rw [show k + j - k = j by omega]
end
end Go.Proofs.YtijcdikekgmfoaaGreatDoor
