/- The specification's ProbeMeet, whole, by its contract. -/
import Derived.Test.YtgjleeamhkolhaaGreatDoorPbMeetS
namespace Go.Proofs.YtgjleeamhkolhaaGreatDoor
open Go.RowKit

theorem tubeB_all {t : Tb} (h : tubeB t = true) : t.l.all boxB = true := by unfold tubeB at h; simp at h; simpa using h.2
theorem meetTB_no {t u : Tb} (h : tubeB t = false ∨ tubeB u = false) : meetTB t u = none := by unfold meetTB; rcases h with h | h <;> simp [h]
theorem meetTB_yes {t u : Tb} (h : tubeB t = true) (h' : tubeB u = true) : meetTB t u = meetOf t.l u.l (pairsN u.l.length t.l.length) := by unfold meetTB; simp [h, h']

/-- The blocks of the call: the two tubes, the answer. -/
structure MeetR (w wr : World) (t u : Tb) : Prop where
  both : TwoT w wr t u
  res : wr.heap[w.heap.size + 1 + 1]? = some (.cells #[.string ⟨#[]⟩, .string ⟨#[]⟩, .int .i64 0, .int .i64 0, .int .i64 0] 127 (0, 0))
theorem MeetR.keep {w wr w2 : World} {t u : Tb} (h : MeetR w wr t u) (hb : Below wr.heap.size wr w2) : MeetR w w2 t u :=
  ⟨h.both.keep hb, (hb.block _ (lt_of_block h.res)).trans h.res⟩
theorem MeetR.new (w : World) (t u : Tb) : MeetR w (((w.alloc (.cells #[.string t.nm, .slice t.a t.l.length t.cap] 132)).alloc (.cells #[.string u.nm, .slice u.a u.l.length u.cap] 132)).alloc (.cells #[.string ⟨#[]⟩, .string ⟨#[]⟩, .int .i64 0, .int .i64 0, .int .i64 0] 127)) t u := by
  refine ⟨(TwoT.new w t u 132).keep (bel1 _), ?_⟩
  have h1 := heap_alloc_new ((w.alloc (.cells #[.string t.nm, .slice t.a t.l.length t.cap] 132)).alloc (.cells #[.string u.nm, .slice u.a u.l.length u.cap] 132)) (.cells #[.string ⟨#[]⟩, .string ⟨#[]⟩, .int .i64 0, .int .i64 0, .int .i64 0] 127)
  rwa [World.size_alloc, World.size_alloc] at h1

set_option maxHeartbeats 4000000 in
set_option maxRecDepth 20000 in
theorem meetS_any (t u : Tb) (w : World) (hl : t.l.length ≤ 1048576) (hm : u.l.length ≤ 1048576) (ht : TubeAt w t) (hu : TubeAt w u) :
    Calls Tryz.prog 85 #[t.val, u.val] w fun e w' => e = .returned (.tuple #[.agg (clashC t.nm u.nm (meetTB t u)), .bool (meetTB t u).isSome]) ∧ Below w.heap.size w w' := by
  have M0 := MeetR.new w t u
  cases h1 : tubeB t with
  | false =>
    have G : Hid (meetTB t u = none) := meetTB_no (.inl h1)
    have H1 : Hid (tubeB t = false) := h1
    clear h1
    go_enter Tryz.func85, Tryz.ntmps85
    go_wp2_with fail
    refine (tubeOkS_val t false _ hl (ht.below (bel3 _ _ _)) H1.out).mono ?_
    rintro e w1 ⟨rfl, hb1⟩
    have M1 := M0.keep hb1
    obtain ⟨r0, r1, r2, r3, r4, rf⟩ := blk5 M1.res
    have HB := M1.both.old
    clear M0 hb1
    go_wp2
    refine bodyPost_ret (v := .tuple #[.agg #[.string ⟨#[]⟩, .string ⟨#[]⟩, .int .i64 0, .int .i64 0, .int .i64 0], .bool false]) (by simp [results, Tryz.results85, go_sem, *]) rfl ⟨by rw [G.out]; rfl, ?_⟩
    iterate 5 (refine Below.setCell ?_ (by simp; omega) _)
    exact HB
  | true =>
    have H1 : Hid (tubeB t = true) := h1
    cases h2 : tubeB u with
    | false =>
      have G : Hid (meetTB t u = none) := meetTB_no (.inr h2)
      have H2 : Hid (tubeB u = false) := h2
      clear h1 h2
      go_enter Tryz.func85, Tryz.ntmps85
      go_wp2_with fail
      refine (tubeOkS_val t true _ hl (ht.below (bel3 _ _ _)) H1.out).mono ?_
      rintro e w1 ⟨rfl, hb1⟩
      have M1 := M0.keep hb1
      have c0 := M1.both.two.c0
      have c1 := M1.both.two.c1
      clear M0 hb1
      go_wp2_with fail
      refine (tubeOkS_val u false _ hm (hu.below M1.both.old) H2.out).mono ?_
      rintro e w2 ⟨rfl, hb2⟩
      have M2 := M1.keep hb2
      obtain ⟨r0, r1, r2, r3, r4, rf⟩ := blk5 M2.res
      have HB := M2.both.old
      clear M1 hb2 c0 c1
      go_wp2
      refine bodyPost_ret (v := .tuple #[.agg #[.string ⟨#[]⟩, .string ⟨#[]⟩, .int .i64 0, .int .i64 0, .int .i64 0], .bool false]) (by simp [results, Tryz.results85, go_sem, *]) rfl ⟨by rw [G.out]; rfl, ?_⟩
      iterate 5 (refine Below.setCell ?_ (by simp; omega) _)
      exact HB
    | true =>
      have G : Hid (meetTB t u = meetOf t.l u.l (pairsN u.l.length t.l.length)) := meetTB_yes h1 h2
      have H2 : Hid (tubeB u = true) := h2
      clear h1 h2
      go_enter Tryz.func85, Tryz.ntmps85
      go_wp2_with fail
      refine (tubeOkS_val t true _ hl (ht.below (bel3 _ _ _)) H1.out).mono ?_
      rintro e w1 ⟨rfl, hb1⟩
      have M1 := M0.keep hb1
      have c0 := M1.both.two.c0
      have c1 := M1.both.two.c1
      clear M0 hb1
      go_wp2_with fail
      refine (tubeOkS_val u true _ hm (hu.below M1.both.old) H2.out).mono ?_
      rintro e w2 ⟨rfl, hb2⟩
      have M2 := M1.keep hb2
      clear M1 hb2 c0 c1
      have c0 := M2.both.one.c0
      have c1 := M2.both.one.c1
      have d0 := M2.both.two.c0
      have d1 := M2.both.two.c1
      go_wp2_with fail
      refine (meetLS_any t.nm u.nm t.a u.a t.b t.o t.cap u.b u.o u.cap t.l u.l _ hl hm (ht.below M2.both.old).at_ (hu.below M2.both.old).at_ (tubeB_all H1.out) (tubeB_all H2.out)).mono ?_
      rintro e w3 ⟨rfl, hb3⟩
      have M3 := M2.keep hb3
      obtain ⟨r0, r1, r2, r3, r4, rf⟩ := blk5 M3.res
      have HB := M3.both.old
      clear M2 hb3 c0 c1 d0 d1
      obtain ⟨st, hst⟩ : ∃ st, meetOf t.l u.l (pairsN u.l.length t.l.length) = st := ⟨_, rfl⟩
      have HST : Hid (meetTB t u = st) := G.out.trans hst
      rw [hst]
      clear hst
      cases st with
      | none =>
        simp only [clashC, Option.isSome]
        go_wp2
        refine bodyPost_ret (v := .tuple #[.agg #[.string ⟨#[]⟩, .string ⟨#[]⟩, .int .i64 0, .int .i64 0, .int .i64 0], .bool false]) (by simp [results, Tryz.results85, go_sem, *]) rfl ⟨by rw [HST.out]; rfl, ?_⟩
        iterate 5 (refine Below.setCell ?_ (by simp; omega) _)
        exact HB
      | some z =>
        obtain ⟨zt, zi, zj⟩ := z
        simp only [clashC, Option.isSome]
        go_wp2
        refine bodyPost_ret (v := .tuple #[.agg #[.string t.nm, .string u.nm, .int .i64 zt, .int .i64 zi, .int .i64 zj], .bool true]) (by simp [results, Tryz.results85, go_sem, *]) rfl ⟨by rw [HST.out]; rfl, ?_⟩
        iterate 5 (refine Below.setCell ?_ (by simp; omega) _)
        exact HB
end Go.Proofs.YtgjleeamhkolhaaGreatDoor
