/- The specification's LinkAgain, by its contract. -/
import Derived.Test.YtfcobpaaeijkoaaLkAgain
import Derived.Test.YtfcobpaaeijkoaaLkCopyS
import Derived.Deep.RegionHeld3
namespace Go.Proofs.Ytfcobpaaeijkoaa
open Go.RowKit

set_option maxRecDepth 20000 in
set_option maxHeartbeats 4000000 in
theorem againS_any (la : Int) (a : Option Addr) (b o cap : Nat) (ts : List Hd) (nm : ByteArray) (w : World) (hl : ts.length ≤ 1048576) (hsm : ∀ t ∈ ts, t.x.l.length ≤ 1048576) (hput : ∀ t ∈ ts, t.x.a = some ⟨t.x.b0, t.x.o, none⟩) (hs : HdsAt w a b o ts) :
    Calls Try.prog 6 #[.agg #[.int .i64 la, .slice a ts.length cap], .string nm] w
      fun e w' => ∃ x c, e = .returned (.tuple #[.agg ((agOf ts nm).cs x c), .bool (agOf ts nm).f]) ∧ w'.ownsRow w.heap.size 109 7 (.slice x (agOf ts nm).l.length c) (agOf ts nm).l.length (stepCells (agOf ts nm).l) ∧ Below w.heap.size w w' := by
  obtain ⟨W0, hW0⟩ : ∃ W0, (w.alloc (.cells #[.int .i64 la, .slice a ts.length cap] 37)).alloc (.cells #[.int .i64 0, .string ⟨#[]⟩, .int .i64 0, .int .i64 0, .int .i64 0, .slice none 0 0, .int .i64 0, .int .i64 0] 32) = W0 := ⟨_, rfl⟩
  have HP : Hid (∀ t ∈ ts, t.x.a = some ⟨t.x.b0, t.x.o, none⟩) := hput
  clear hput
  have P0 := AgW.new w la (.slice a ts.length cap)
  rw [hW0] at P0
  obtain ⟨x0, x1, xf⟩ := blk2 P0.bk
  go_enter Try.func6, Try.ntmps6
  go_wp2_with fail
  refine (atS_any la a b o cap ts nm _ hl (hs.below (by first | exact P0.old | (rw [hW0]; exact P0.old)))).mono ?_
  rintro e w1 ⟨p, rfl, hp, hb1⟩
  have P1 := P0.keep hb1
  clear hW0 x0 x1 xf P0 hb1
  rcases hp with ⟨rfl, hf⟩ | ⟨k, t, rfl, htk, hf⟩
  · have G : Hid (agOf ts nm = .zero) := agOf_none hf
    obtain ⟨⟨z0, z1, z2, z3, z4, z5, z6, z7⟩, zf⟩ := blk8 P1.res
    clear hf
    go_wp2
    refine bodyPost_ret (v := .tuple #[.agg #[.int .i64 0, .string ⟨#[]⟩, .int .i64 0, .int .i64 0, .int .i64 0, .slice none 0 0, .int .i64 0, .int .i64 0], .bool false]) (by simp [results, Try.results6, go_sem, *]) rfl ⟨none, 0, by rw [G.out]; rfl, by rw [G.out]; exact World.ownsRow_nil _ _ _ _, ?_⟩
    iterate 8 (refine Below.setCell ?_ (by simp) _)
    exact P1.old
  · have hlt : k < ts.length := (List.getElem?_eq_some_iff.1 htk).1
    have hne : ts ≠ [] := by intro e; subst e; simp at hlt
    have hm := List.mem_of_getElem? htk
    obtain rfl := hs.here hne
    obtain ⟨x0, x1, xf⟩ := blk2 P1.bk
    have hs1 := hs.below P1.old
    obtain ⟨c0, c1, c2, c3, c4, c5, c6, c7, c8, c9, c10, c11, c12⟩ := cl_cells (hs1.cell k t htk)
    have k0 : (0 : Int) ≤ (k : Int) := by omega
    have k1 : (k : Int) < (ts.length : Int) := by omega
    have k2 : ¬ (k : Int) < 0 := by omega
    cases hn : t.x.none with
    | true =>
      have G : Hid (agOf ts nm = .zero) := agOf_nothing hf hn
      have HN : Hid (t.x.none = true) := hn
      clear hf hn
      go_wp2_with fail
      refine (noneS_val t.x true _ HN.out).mono ?_
      rintro e w2 ⟨rfl, hb2⟩
      have P2 := P1.keep hb2
      obtain ⟨⟨z0, z1, z2, z3, z4, z5, z6, z7⟩, zf⟩ := blk8 P2.res
      go_wp2
      refine bodyPost_ret (v := .tuple #[.agg #[.int .i64 0, .string ⟨#[]⟩, .int .i64 0, .int .i64 0, .int .i64 0, .slice none 0 0, .int .i64 0, .int .i64 0], .bool false]) (by simp [results, Try.results6, go_sem, *]) rfl ⟨none, 0, by rw [G.out]; rfl, by rw [G.out]; exact World.ownsRow_nil _ _ _ _, ?_⟩
      iterate 8 (refine Below.setCell ?_ (by simp) _)
      exact P2.old
    | false =>
      have G : Hid (agOf ts nm = ⟨2, nm, t.sn, t.x.q, t.x.s, t.x.fr, t.x.b, t.x.l, true⟩) := agOf_some hf hn
      have HN : Hid (t.x.none = false) := hn
      have HX : Hid (t.x.a = some ⟨t.x.b0, t.x.o, none⟩) := HP.out t hm
      have hxl := hsm t hm
      clear hf hn
      go_wp2_with fail
      refine (noneS_val t.x false _ HN.out).mono ?_
      rintro e w2 ⟨rfl, hb2⟩
      have P2 := P1.keep hb2
      have hs2 := hs1.below hb2
      clear x0 x1 xf c0 c1 c2 c3 c4 c5 c6 c7 c8 c9 c10 c11 c12 P1 hs1 hb2
      have hbl : b < w2.heap.size := hs2.lt hne
      have D2 : Below w2.heap.size w2 w2.drew := (Below.refl _ _).drew
      have S2 : StepsAt w2.drew (some ⟨t.x.b0, t.x.o, none⟩) t.x.b0 t.x.o t.x.l := by
        have h := ((hs2.below D2).each t hm).x
        unfold PtAt at h
        rw [HX.out] at h
        exact h
      have hF : ∀ W : World, Below w2.heap.size w2 W → W.cell? ⟨w.heap.size, 1, none⟩ = some (.slice (some ⟨b, o, none⟩) ts.length cap) ∧ W.cell? ⟨b, o + k * 13 + 7, none⟩ = some (.int .i64 t.sn) ∧ W.cell? ⟨b, o + k * 13 + 8, none⟩ = some (.int .i64 t.x.q) ∧ W.cell? ⟨b, o + k * 13 + 9, none⟩ = some (.int .i64 t.x.s) ∧ W.cell? ⟨b, o + k * 13 + 10, none⟩ = some (.slice (some ⟨t.x.b0, t.x.o, none⟩) t.x.l.length t.x.cap) ∧ W.cell? ⟨b, o + k * 13 + 11, none⟩ = some (.int .i64 t.x.fr) ∧ W.cell? ⟨b, o + k * 13 + 12, none⟩ = some (.int .i64 t.x.b) := fun W hb => by
        have q := cl_cells ((hs2.below hb).cell k t htk)
        have q10 := q.2.2.2.2.2.2.2.2.2.2.1
        rw [HX.out] at q10
        exact ⟨(blk2 (P2.keep hb).bk).2.1, q.2.2.2.2.2.2.2.1, q.2.2.2.2.2.2.2.2.1, q.2.2.2.2.2.2.2.2.2.1, q10, q.2.2.2.2.2.2.2.2.2.2.2.1, q.2.2.2.2.2.2.2.2.2.2.2.2⟩
      obtain ⟨x1, c7, c8, c9, c10, c11, c12⟩ := hF w2 (Below.refl _ _)
      have hb0 : b < w.heap.size := hs.lt hne
      have hbn : ¬ b = w.heap.size + 1 := by omega
      have hbm : ¬ w.heap.size + 1 = b := by omega
      clear hb0
      go_wp2
      go_region_held3 (fun w' => w'.cell? ⟨w.heap.size, 1, none⟩ = some (.slice (some ⟨b, o, none⟩) ts.length cap) ∧ w'.cell? ⟨b, o + k * 13 + 7, none⟩ = some (.int .i64 t.sn) ∧ w'.cell? ⟨b, o + k * 13 + 8, none⟩ = some (.int .i64 t.x.q) ∧ w'.cell? ⟨b, o + k * 13 + 9, none⟩ = some (.int .i64 t.x.s) ∧ w'.cell? ⟨b, o + k * 13 + 10, none⟩ = some (.slice (some ⟨t.x.b0, t.x.o, none⟩) t.x.l.length t.x.cap) ∧ w'.cell? ⟨b, o + k * 13 + 11, none⟩ = some (.int .i64 t.x.fr) ∧ w'.cell? ⟨b, o + k * 13 + 12, none⟩ = some (.int .i64 t.x.b))
        (simp [go_sem, *])
        (first
          | (go_at_call 22; refine (copyS_all t.x.q t.x.s t.x.fr t.x.b t.x.b0 t.x.o t.x.cap t.x.l _ hxl S2).mono ?_; rintro e w3 ⟨v3, rfl, o3, hb3⟩; obtain ⟨a3, c3, rfl⟩ := owns_sliceL o3; have hb23 := D2.trans hb3; obtain ⟨y1, y7, y8, y9, y10, y11, y12⟩ := hF w3 hb23; obtain ⟨⟨z0, z1, z2, z3, z4, z5, z6, z7⟩, zf⟩ := blk8 (P2.keep hb23).res)
          | fail)
      have zo := P2.old.size
      have zr : w.heap.size + 1 < w2.heap.size := lt_of_block P2.res
      have P3 := P2.keep hb23
      go_wp2
      refine bodyPost_ret (v := .tuple #[.agg #[.int .i64 2, .string nm, .int .i64 t.sn, .int .i64 t.x.q, .int .i64 t.x.s, .slice a3 t.x.l.length c3, .int .i64 t.x.fr, .int .i64 t.x.b], .bool true]) (by simp [results, Try.results6, go_sem, *]) rfl ⟨a3, c3, by rw [G.out], ?_, ?_⟩
      · rw [G.out]
        iterate 8 (refine owns_set ?_ (fun k e => by have h1 : w2.heap.size ≤ k := owns_base o3 k e; omega) _ _)
        exact owns_lowerL o3 zo
      · iterate 8 (refine Below.setCell ?_ (by simp) _)
        exact P3.old
end Go.Proofs.Ytfcobpaaeijkoaa
