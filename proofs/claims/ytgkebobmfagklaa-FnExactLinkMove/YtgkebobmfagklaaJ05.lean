/- Joined texts: NextFly, LkNext, PbName2, LkMoveI, LkMoveY, LkMoveS, SpanMark2, PathMark, LkMarkC, LkCraftM. -/
import Derived.WalkKit
import Derived.WalkSpells
import Derived.Deep.RegionHeld3
import Derived.Test.YtgkebobmfagklaaRows
import Derived.Test.YtgkebobmfagklaaJ04
import Derived.Test.YtgkebobmfagklaaJ03
import Derived.Test.YtgkebobmfagklaaJ01
import Derived.Test.YtgkebobmfagklaaJ02
namespace Go.Proofs.Ytgkebobmfagklaa
open Go.RowKit

theorem flyL_go (q s fr b : Int) (l : List Stp) : flyB q s fr b l = goB q s fr b l [] := by
  unfold flyB goB
  simp [begunB]

set_option maxRecDepth 20000 in
set_option maxHeartbeats 1000000 in
theorem goingOn_any (hI : SpansSaid) (q s fr b : Int) (a : Option Addr) (b0 off cap : Nat) (l : List Stp) (w : World) (hl : l.length ≤ 1048576) (hs : StepsAt w a b0 off l) :
    Calls Try.prog 55 #[.agg #[.int .i64 q, .int .i64 s, .slice a l.length cap, .int .i64 fr, .int .i64 b]] w
      fun e w' => ∃ g scap Bo v, e = .returned (.func (.func 61) #[] #[.pointer (some ⟨w.heap.size, 0, none⟩), .pointer (some ⟨Bo, 0, none⟩)]) ∧ Below w.heap.size w w' ∧
        PathAt w' w.heap.size q s fr b (.slice a l.length cap) ∧ Boxed w' Bo 79 v ∧ OpenV w' q s fr b l (w.heap.size + 1) g scap [] v ∧ w.heap.size < g ∧ w.heap.size < Bo ∧ (goB q s fr b l [] = true → g ≠ Bo) ∧ g < w'.heap.size := by
  have hP0 := PathAt.new w q s fr b (.slice a l.length cap)
  go_enter Try.func55, Try.ntmps55
  go_wp2_with fail
  refine (hI q s fr b a b0 off cap l _ hl (hs.alloc _)).mono ?_
  rintro e w1 ⟨v, rfl, hown, hb1⟩
  have hP1 := hP0.keep hb1 (by simp)
  have z1 := hP1.lt
  have hb01 : Below w.heap.size w w1 := ((Below.refl w.heap.size w).alloc (Nat.le_refl _) _).trans (hb1.mono (by simp))
  have hvs : ∃ va vn vc, v = .slice va vn vc := by
    rcases hown.2 with ⟨rfl, _⟩ | ⟨g, c, _, rfl, _⟩ <;> exact ⟨_, _, _, rfl⟩
  obtain ⟨va, vn, vc, rfl⟩ := hvs
  go_wp2
  go_ret
  have hal : Below w1.heap.size w1 (w1.alloc (.cells #[.slice va vn vc] 79)) := (Below.refl w1.heap.size w1).alloc (Nat.le_refl _) _
  have hb02 := hb01.trans (hal.mono hb01.size)
  have hP2 := hP1.keep hal z1
  have hB2 := Boxed.new w1 79 (.slice va vn vc)
  have hsz : (w1.alloc (.cells #[.slice va vn vc] 79)).heap.size = w1.heap.size + 1 := World.size_alloc _ _
  cases hg : goB q s fr b l [] with
  | true =>
    obtain ⟨hp, hsp, _, _⟩ := goB_parts hg
    have hL : flyL q s fr b l = spansL q s fr b l := by unfold flyL; rw [if_pos hp]
    have hn : (spansL q s fr b l).length = l.length + 1 := by unfold spansL; rw [if_pos hsp]; simp
    rw [hL, hn] at hown
    have hown2 := owns_below hown hal
    rw [World.size_alloc] at hown2
    have h22 := hown2.2
    rcases h22 with ⟨e1, e2⟩ | ⟨g, c, cur, h1, h2, h3, h4, _⟩
    · omega
    · cases h1
      have hgl : g < w1.heap.size := (hown.lt g rfl).2
      refine ⟨g, vc, w1.heap.size, _, rfl, hb02, hP2, hB2, ?_, by omega, z1, fun _ => by omega, by omega⟩
      unfold OpenV
      rw [if_pos hg]
      refine ⟨⟨vc, by simpa using h4, rfl⟩, ?_⟩
      rw [show ([] : List Int).length = 0 from rfl, rowG_zero _ hsp]
      exact hown2
  | false =>
    have hL : flyL q s fr b l = [] := by
      rw [← flyL_go] at hg
      unfold flyB at hg
      unfold flyL
      cases hp : pathB q s fr b l with
      | false => rfl
      | true =>
        rw [hp, Bool.true_and] at hg
        unfold spansL
        rw [hg]; rfl
    rw [hL] at hown
    refine ⟨w1.heap.size, 0, w1.heap.size, _, rfl, hb02, hP2, hB2, ?_, z1, z1, (fun h => by cases h), by omega⟩
    unfold OpenV
    rw [if_neg (by rw [hg]; simp)]
    rcases hown.2 with ⟨e1, _⟩ | ⟨g, c, _, e1, _⟩
    · cases e1; exact ⟨_, _, rfl⟩
    · cases e1; exact ⟨_, _, rfl⟩

set_option maxRecDepth 20000 in
set_option maxHeartbeats 1000000 in
theorem flyNext_any (hI : SpansSaid) (q s fr b : Int) (a : Option Addr) (b0 off cap : Nat) (l : List Stp) (c : Option Addr) (cb co ccap : Nat) (zs : List Int) (w : World) (hl : l.length ≤ 1048576) (hzl : zs.length ≤ 1048576) (hs : StepsAt w a b0 off l) (hz : IntsAt w c cb co zs) :
    Calls Try.prog 41 #[.agg #[.int .i64 q, .int .i64 s, .slice a l.length cap, .int .i64 fr, .int .i64 b], .slice c zs.length ccap] w
      fun e w' => e = .returned (.tuple #[.agg #[.int .i64 (goS q s fr b l zs).1, .int .i64 (goS q s fr b l zs).2], .bool (goB q s fr b l zs)]) ∧ Below w.heap.size w w' := by
  have hr0 := Span2.new (w.alloc (.cells #[.int .i64 q, .int .i64 s, .slice a l.length cap, .int .i64 fr, .int .i64 b] 34)) 61
  simp only [World.size_alloc] at hr0
  have hbA : Below w.heap.size w ((w.alloc (.cells #[.int .i64 q, .int .i64 s, .slice a l.length cap, .int .i64 fr, .int .i64 b] 34)).alloc (.cells #[.int .i64 0, .int .i64 0] 61)) := ((Below.refl w.heap.size w).alloc (Nat.le_refl _) _).alloc (by simp) _
  have hz0 := (hz.alloc (.cells #[.int .i64 q, .int .i64 s, .slice a l.length cap, .int .i64 fr, .int .i64 b] 34)).alloc (.cells #[.int .i64 0, .int .i64 0] 61)
  have hs0 := (hs.alloc (.cells #[.int .i64 q, .int .i64 s, .slice a l.length cap, .int .i64 fr, .int .i64 b] 34)).alloc (.cells #[.int .i64 0, .int .i64 0] 61)
  have hsz0 : ((w.alloc (.cells #[.int .i64 q, .int .i64 s, .slice a l.length cap, .int .i64 fr, .int .i64 b] 34)).alloc (.cells #[.int .i64 0, .int .i64 0] 61)).heap.size = w.heap.size + 1 + 1 := by simp
  go_enter Try.func41, Try.ntmps41
  go_wp2_with fail
  refine (goingOn_any hI q s fr b a b0 off cap l _ hl hs0).mono ?_
  rw [hsz0]
  rintro e w1 ⟨g, scap, Bo, v, rfl, hb1, hP1, hB1, hV1, k1, k2, k3, k4⟩
  have hr1 : w1.heap[w.heap.size + 1]? = some (.cells #[.int .i64 0, .int .i64 0] 61 (0, 0)) := (hb1.block _ (by omega)).trans hr0
  have hs1 := hs0.below hb1 (fun h => by have := hs0.lt h; omega)
  have hz1 := hz0.below hb1 (fun h => by have := hz0.lt h; omega)
  have hb01 := hbA.trans (hb1.mono (by omega))
  have sb : l ≠ [] → b0 < w.heap.size := hs.lt
  have zb : zs ≠ [] → cb < w.heap.size := hz.lt
  clear hr0 hbA hz0 hs0 hb1
  go_wp2_with fail
  refine (clo_any q s fr b a b0 off cap l c cb co ccap zs _ g scap (w.heap.size + 1 + 1) Bo [] v w1 hl hzl hs1 hz1 hP1 hB1 hV1 (by omega) (by omega) k3 (fun h => by have := sb h; omega) (fun h => by have := zb h; omega) k4).mono ?_
  rintro e w2 ⟨rfl, hK, v2, hB2, hV2⟩
  rw [List.nil_append]
  have hr2 := (hK.block _ (lt_of_block hr1) (by omega) (by omega)).trans hr1
  obtain ⟨r0, r1, rf⟩ := blk2 hr2
  have hb12 := hK.below (B := w.heap.size) (by have := hb01.size; omega) (by omega) (by omega)
  have hb02 := hb01.trans hb12
  clear hr1 hr2 hK hB2 hV2 hB1 hV1 hP1 hs1 hz1
  go_wp2
  refine bodyPost_ret (v := .tuple #[.agg #[.int .i64 (goS q s fr b l zs).1, .int .i64 (goS q s fr b l zs).2], .bool (goB q s fr b l zs)]) (by simp [results, Try.results41, go_sem, *]) rfl ⟨rfl, ?_⟩
  iterate 2 (refine Below.setCell ?_ (by simp <;> omega) _)
  exact hb02
end Go.Proofs.Ytgkebobmfagklaa

namespace Go.Proofs.Ytgkebobmfagklaa
open Go.RowKit

theorem isInNow_any (z y1 y2 : Int) (w : World) :
    Calls Try.prog 42 #[.agg #[.int .i64 z, .int .i64 z], .agg #[.int .i64 y1, .int .i64 y2]] w fun e w' => e = .returned (.bool (inB z y1 y2)) ∧ Below w.heap.size w w' := by
  have hb : ∀ c1 c2 : Array Value, Below w.heap.size w ((w.alloc (.cells c1 61)).alloc (.cells c2 61)) := fun c1 c2 => bel2 _ _
  by_cases h1 : y1 ≤ z
  · by_cases h2 : z ≤ y2
    · go_enter Try.func42, Try.ntmps42
      go_wp2
      go_ret
      exact ⟨by simp [inB, h1, h2], hb _ _⟩
    · have h2' : decide (z ≤ y2) = false := by simpa using h2
      go_enter Try.func42, Try.ntmps42
      go_wp2
      go_ret
      exact ⟨by simp [inB, h2'], hb _ _⟩
  · have h1' : decide (y1 ≤ z) = false := by simpa using h1
    go_enter Try.func42, Try.ntmps42
    go_wp2
    go_ret
    exact ⟨by simp [inB, h1'], hb _ _⟩

/-- It may go on now. -/
def Cf.nextB (t : Cf) (now : Int) : Bool := goB t.p.q t.p.s t.p.fr t.p.b t.p.l t.zs && inB now (goS t.p.q t.p.s t.p.fr t.p.b t.p.l t.zs).1 (goS t.p.q t.p.s t.p.fr t.p.b t.p.l t.zs).2

set_option maxHeartbeats 1000000 in
theorem mayGoOn_any (hI : SpansSaid) (t : Cf) (now : Int) (w : World) (hl : t.p.l.length ≤ 1048576) (hz : t.zs.length ≤ 1048576) (h : CfAt w t) :
    Calls Try.prog 21 #[t.val, .int .i64 now] w fun e w' => e = .returned (.bool (t.nextB now)) ∧ Below w.heap.size w w' := by
  have S0 := h.below (bel1 (.cells #[.string t.nm, .int .i64 t.n, .int .i64 t.no, .int .i64 t.p.q, .int .i64 t.p.s, .slice t.p.a t.p.l.length t.p.cap, .int .i64 t.p.fr, .int .i64 t.p.b, .slice t.fa t.zs.length t.fcap] 36))
  go_enter Try.func21, Try.ntmps21
  go_wp2_with fail
  refine (flyNext_any hI _ _ _ _ _ t.p.b0 t.p.o _ _ _ t.fb t.fo _ _ _ hl hz S0.st S0.fl).mono ?_
  rintro e w1 ⟨rfl, hb1⟩
  have B1 : Below w.heap.size w w1 := (bel1 _).trans (hb1.mono (by simp))
  cases hg : goB t.p.q t.p.s t.p.fr t.p.b t.p.l t.zs with
  | false =>
    have G : Hid (t.nextB now = false) := by show _ = _; unfold Cf.nextB; rw [hg]; rfl
    go_wp2
    go_ret
    exact ⟨by rw [G.out]; rfl, B1.alloc B1.size _⟩
  | true =>
    have G : Hid (t.nextB now = inB now (goS t.p.q t.p.s t.p.fr t.p.b t.p.l t.zs).1 (goS t.p.q t.p.s t.p.fr t.p.b t.p.l t.zs).2) := by show _ = _; unfold Cf.nextB; rw [hg]; rfl
    generalize goS t.p.q t.p.s t.p.fr t.p.b t.p.l t.zs = S at *
    obtain ⟨y1, y2⟩ := S
    go_wp2_with fail
    refine (isInNow_any now y1 y2 _).mono ?_
    rintro e w2 ⟨rfl, hb2⟩
    go_wp2
    go_ret
    exact ⟨by rw [G.out]; rfl, (B1.alloc B1.size _).trans (hb2.mono (by have := B1.size; simp; omega))⟩

set_option maxHeartbeats 1000000 in
theorem craftNextS_any (t : Cf) (now : Int) (w : World) (hl : t.p.l.length ≤ 1048576) (hz : t.zs.length ≤ 1048576) (h : CfAt w t) :
    Calls Try.prog 15 #[t.val, .int .i64 now] w fun e w' => e = .returned (.bool (t.nextB now)) ∧ Below w.heap.size w w' := by
  have S0 := h.below (bel1 (.cells #[.string t.nm, .int .i64 t.n, .int .i64 t.no, .int .i64 t.p.q, .int .i64 t.p.s, .slice t.p.a t.p.l.length t.p.cap, .int .i64 t.p.fr, .int .i64 t.p.b, .slice t.fa t.zs.length t.fcap] 36))
  go_enter Try.func15, Try.ntmps15
  go_wp2_with fail
  refine (flyNextS_any _ _ _ _ _ t.p.b0 t.p.o _ _ _ t.fb t.fo _ _ _ hl hz S0.st S0.fl).mono ?_
  rintro e w1 ⟨rfl, hb1⟩
  have B1 : Below w.heap.size w w1 := (bel1 _).trans (hb1.mono (by simp))
  cases hg : goB t.p.q t.p.s t.p.fr t.p.b t.p.l t.zs with
  | false =>
    have G : Hid (t.nextB now = false) := by show _ = _; unfold Cf.nextB; rw [hg]; rfl
    go_wp2
    go_ret
    exact ⟨by rw [G.out]; rfl, B1.alloc B1.size _⟩
  | true =>
    have G : Hid (t.nextB now = inB now (goS t.p.q t.p.s t.p.fr t.p.b t.p.l t.zs).1 (goS t.p.q t.p.s t.p.fr t.p.b t.p.l t.zs).2) := by show _ = _; unfold Cf.nextB; rw [hg]; rfl
    generalize goS t.p.q t.p.s t.p.fr t.p.b t.p.l t.zs = S at *
    obtain ⟨y1, y2⟩ := S
    go_wp2_with fail
    refine (in_any now y1 y2 _).mono ?_
    rintro e w2 ⟨rfl, rfl⟩
    go_wp2
    go_ret
    exact ⟨by rw [G.out]; rfl, B1.alloc B1.size _⟩
end Go.Proofs.Ytgkebobmfagklaa

namespace Go.Proofs.Ytgkebobmfagklaa
open Go.RowKit

theorem mayStand_any (n : Int) (w : World) :
    Calls Try.prog 40 #[.int .i32 n] w fun e w' => e = .returned (.bool (letB n)) ∧ w' = w := by
  rcases (show (97 ≤ n ∧ n ≤ 122) ∨ (97 ≤ n ∧ ¬ n ≤ 122 ∧ 48 ≤ n ∧ ¬ n ≤ 57 ∧ ¬ n = 45) ∨ (¬ 97 ≤ n ∧ 48 ≤ n ∧ n ≤ 57) ∨ (¬ 97 ≤ n ∧ 48 ≤ n ∧ ¬ n ≤ 57 ∧ ¬ n = 45) ∨ (¬ 97 ≤ n ∧ ¬ 48 ≤ n ∧ n = 45) ∨ (¬ 97 ≤ n ∧ ¬ 48 ≤ n ∧ ¬ n = 45) by omega) with ⟨h1, h2⟩ | ⟨h1, h2, h3, h4, h5⟩ | ⟨h1, h2, h3⟩ | ⟨h1, h2, h3, h5⟩ | ⟨h1, h2, h3⟩ | ⟨h1, h2, h3⟩
  all_goals
    go_enter Try.func40, Try.ntmps40
    go_wp2
    go_ret
    first
      | exact ⟨by simp [letB]; omega, rfl⟩
      | exact ⟨by simp [letB], rfl⟩
      | exact ⟨by simp [letB, *], rfl⟩

theorem mayStand_val (n : Int) (v : Bool) (w : World) (hv : letB n = v) : Calls Try.prog 40 #[.int .i32 n] w fun e w' => e = .returned (.bool v) ∧ w' = w := by
  rw [← hv]; exact mayStand_any n w

set_option maxHeartbeats 1000000 in
theorem isName_any (s : ByteArray) (w : World) :
    Calls Try.prog 20 #[.string s] w fun e w' => e = .returned (.bool (nameB s)) ∧ Below w.heap.size w w' := by
  rcases (show s.size < 1 ∨ (¬ s.size < 1 ∧ 8 < s.size) ∨ (¬ s.size < 1 ∧ ¬ 8 < s.size) by omega) with h1 | ⟨h1, h2⟩ | ⟨h1, h2⟩
  · have G : Hid (nameB s = false) := by show _ = _; unfold nameB; simp [inB]; omega
    have h1' : (s.size : Int) < 1 := by omega
    go_enter Try.func20, Try.ntmps20
    go_wp2
    go_ret
    exact ⟨by rw [G.out]; rfl, Below.refl _ _⟩
  · have G : Hid (nameB s = false) := by show _ = _; unfold nameB; simp [inB]; omega
    have h1' : ¬ (s.size : Int) < 1 := by omega
    have h2' : (8 : Int) < s.size := by omega
    go_enter Try.func20, Try.ntmps20
    go_wp2
    go_ret
    exact ⟨by rw [G.out]; rfl, Below.refl _ _⟩
  · have G : Hid (nameB s = nameTo s s.size) := by show _ = _; unfold nameB; simp [inB]; omega
    have h1' : ¬ (s.size : Int) < 1 := by omega
    have h2' : ¬ (8 : Int) < s.size := by omega
    go_enter Try.func20, Try.ntmps20
    go_wp2
    go_loopw [15] (fun _ wr => ∃ k : Nat, k ≤ s.size ∧ wr.heap[w.heap.size]? = some (.stringIter s k) ∧ Below w.heap.size w wr ∧ nameTo s k = true) (fun _ wr => s.size - wr.iterPos w.heap.size)
    case atStart => exact ⟨0, Nat.zero_le _, World.iter_heap w s 0, (Below.refl _ w).alloc (Nat.le_refl _) _, nameTo_zero s⟩
    case round =>
      obtain ⟨k, hk, hit, hb, hg⟩ := hrel
      have HG : Hid (nameTo s k = true) := hg
      clear hg
      by_cases hlt : k < s.size
      · have HB := byteAt_lt hlt
        by_cases ha : (s[k]'hlt).toNat < 128
        · obtain ⟨n, hn, hnx⟩ : ∃ n : Int, n = (byteAt s k : Nat) ∧ ∀ ty, (Instr.next (.pointer (some ⟨w.heap.size, 0, none⟩)) true ty).run Try.prog wr = .ok (.tuple #[.bool true, .int .i64 k, .int .i32 n]) (wr.iterAt w.heap.size s (k + 1)) :=
            ⟨_, rfl, fun ty => by rw [HB]; exact Lib.run_next_ascii_at wr w.heap.size s k ty hit hlt ha⟩
          have HI2 : Hid ((wr.iterAt w.heap.size s (k + 1)).heap[w.heap.size]? = some (.stringIter s (k + 1))) := Lib.iterAt_heap wr w.heap.size s k (k + 1) hit
          have hb2 := Lib.below_iterAt hb (k := w.heap.size) (Nat.le_refl _) s (k + 1)
          have HM : Hid (wr.iterPos w.heap.size = k) := by show _ = _; simp only [World.iterPos, hit]
          generalize (wr.iterAt w.heap.size s (k + 1)) = W at *
          clear hit HB ha
          cases hl : letB n with
          | true =>
            have G1 : Hid (letB (byteAt s k : Nat) = true) := by show _ = _; rw [← hn]; exact hl
            have HL : Hid (letB n = true) := hl
            clear hl hn
            go_wp2_with (go_at_call 40; refine (mayStand_val _ _ _ HL.out).mono ?_; rintro e w1 ⟨rfl, rfl⟩)
            go_roundw
            case rel => exact ⟨k + 1, by omega, HI2.out, hb2, by rw [nameTo_succ, HG.out, G1.out]; rfl⟩
            case measure =>
              have e1 := HM.out
              simp only [World.iterPos, HI2.out] at e1 ⊢
              omega
          | false =>
            have G1 : Hid (letB (byteAt s k : Nat) = false) := by show _ = _; rw [← hn]; exact hl
            have HL : Hid (letB n = false) := hl
            clear hl hn
            go_wp2_with (go_at_call 40; refine (mayStand_val _ _ _ HL.out).mono ?_; rintro e w1 ⟨rfl, rfl⟩)
            go_ret
            exact ⟨by rw [G.out, nameTo_not hlt G1.out]; rfl, hb2⟩
        · have hnx : ∀ ty, (Instr.next (.pointer (some ⟨w.heap.size, 0, none⟩)) true ty).run Try.prog wr = _ := fun ty => Lib.run_next_any_at wr w.heap.size s k ty hit hlt
          have hd := (decode_high s k hlt (by omega)).1
          have hb2 := Lib.below_iterAt hb (k := w.heap.size) (Nat.le_refl _) s (k + (Utf8.decode s k).2)
          have HL : Hid (letB ((Utf8.decode s k).1 : Nat) = false) := letB_high (by omega)
          have G1 : Hid (letB (byteAt s k) = false) := letB_high (by omega)
          generalize (wr.iterAt w.heap.size s (k + (Utf8.decode s k).2)) = W at *
          generalize (Utf8.decode s k).1 = r at *
          clear hit HB ha hd
          go_wp2_with (go_at_call 40; refine (mayStand_val _ _ _ HL.out).mono ?_; rintro e w1 ⟨rfl, rfl⟩)
          go_ret
          exact ⟨by rw [G.out, nameTo_not hlt G1.out]; rfl, hb2⟩
      · obtain rfl : k = s.size := by omega
        have hnx : ∀ ty, (Instr.next (.pointer (some ⟨w.heap.size, 0, none⟩)) true ty).run Try.prog wr = _ := fun ty => Lib.run_next_end_at wr w.heap.size s s.size ty hit hlt
        go_wp2
        go_ret
        exact ⟨by rw [G.out, HG.out]; rfl, hb⟩
end Go.Proofs.Ytgkebobmfagklaa

namespace Go.Proofs.Ytgkebobmfagklaa
open Go.RowKit

theorem isName_valL (s : ByteArray) (v : Bool) (w : World) (hv : nameB s = v) :
    Calls Try.prog 20 #[.string s] w fun e w' => e = .returned (.bool v) ∧ Below w.heap.size w w' := by
  rw [← hv]; exact isName_any s w
theorem mayGoOn_val (hI : SpansSaid) (t : Cf) (now : Int) (v : Bool) (w : World) (hl : t.p.l.length ≤ 1048576) (hz : t.zs.length ≤ 1048576) (h : CfAt w t) (hv : t.nextB now = v) :
    Calls Try.prog 21 #[t.val, .int .i64 now] w fun e w' => e = .returned (.bool v) ∧ Below w.heap.size w w' := by
  rw [← hv]; exact mayGoOn_any hI t now w hl hz h

set_option maxRecDepth 20000 in
set_option maxHeartbeats 4000000 in
theorem moveI_no (hI : SpansSaid) (nm : ByteArray) (n no q s fr b : Int) (b0 o cap : Nat) (l : List Stp) (c0 p ccap : Nat) (zs : List Int) (now : Int) (w : World) (hl : l.length ≤ 1048576) (hz : zs.length ≤ 1048576) (hs : StepsAt w (some ⟨b0, o, none⟩) b0 o l) (hf : IntsAt w (some ⟨c0, p, none⟩) c0 p zs) (hno : (nameB nm && Cf.nextB ⟨nm, n, no, ⟨q, s, fr, b, some ⟨b0, o, none⟩, b0, o, cap, l⟩, some ⟨c0, p, none⟩, c0, p, ccap, zs⟩ now) = false) :
    Calls Try.prog 7 #[.agg #[.string nm, .int .i64 n, .int .i64 no, .int .i64 q, .int .i64 s, .slice (some ⟨b0, o, none⟩) l.length cap, .int .i64 fr, .int .i64 b, .slice (some ⟨c0, p, none⟩) zs.length ccap], .int .i64 now] w
      fun e w' => ∃ v u, e = .returned (.tuple #[.agg #[.string nm, .int .i64 n, .int .i64 no, .int .i64 q, .int .i64 s, v, .int .i64 fr, .int .i64 b, u], .bool false]) ∧ w'.ownsRow w.heap.size 75 7 v l.length (stepCells l) ∧ w'.ownsRow w.heap.size 3 1 u zs.length (intCells zs) ∧ (∀ k k', v.ownBlock = some k → u.ownBlock = some k' → k ≠ k') ∧ Below w.heap.size w w' := by
  have HN : Hid ((nameB nm && Cf.nextB ⟨nm, n, no, ⟨q, s, fr, b, some ⟨b0, o, none⟩, b0, o, cap, l⟩, some ⟨c0, p, none⟩, c0, p, ccap, zs⟩ now) = false) := hno
  clear hno
  have X0 := (Below.heap_alloc (w.alloc (.cells #[.string nm, .int .i64 n, .int .i64 no, .int .i64 q, .int .i64 s, .slice (some ⟨b0, o, none⟩) l.length cap, .int .i64 fr, .int .i64 b, .slice (some ⟨c0, p, none⟩) zs.length ccap] 36)) (.cells #[.string ⟨#[]⟩, .int .i64 0, .int .i64 0, .int .i64 0, .int .i64 0, .slice none 0 0, .int .i64 0, .int .i64 0, .slice none 0 0] 36) w.heap.size (by simp)).trans (heap_alloc_new w (.cells #[.string nm, .int .i64 n, .int .i64 no, .int .i64 q, .int .i64 s, .slice (some ⟨b0, o, none⟩) l.length cap, .int .i64 fr, .int .i64 b, .slice (some ⟨c0, p, none⟩) zs.length ccap] 36))
  have Z0 := heap_alloc_new (w.alloc (.cells #[.string nm, .int .i64 n, .int .i64 no, .int .i64 q, .int .i64 s, .slice (some ⟨b0, o, none⟩) l.length cap, .int .i64 fr, .int .i64 b, .slice (some ⟨c0, p, none⟩) zs.length ccap] 36)) (.cells #[.string ⟨#[]⟩, .int .i64 0, .int .i64 0, .int .i64 0, .int .i64 0, .slice none 0 0, .int .i64 0, .int .i64 0, .slice none 0 0] 36)
  rw [World.size_alloc] at Z0
  go_enter Try.func7, Try.ntmps7
  go_wp2_with fail
  refine (copied_any nm n no q s fr b b0 o cap l c0 p ccap zs _ hl hz (hs.below (bel2 _ _) hs.lt) (hf.below (bel2 _ _) hf.lt)).mono ?_
  rintro e w1 ⟨v1, u1, rfl, o1, k1, ap, hb1⟩
  obtain ⟨a1, c1, rfl⟩ := owns_sliceL o1
  obtain ⟨a2, c2, rfl⟩ := owns_sliceL k1
  have A1 := bel1 (w := w1) (.cells #[.string nm, .int .i64 n, .int .i64 no, .int .i64 q, .int .i64 s, .slice a1 l.length c1, .int .i64 fr, .int .i64 b, .slice a2 zs.length c2] 36)
  have X1 := (A1.block _ (by have := hb1.size; simp at this; omega)).trans ((hb1.block _ (by simp; omega)).trans X0)
  have Z1 := (A1.block _ (by have := hb1.size; simp at this; omega)).trans ((hb1.block _ (by simp)).trans Z0)
  have M1 := heap_alloc_new w1 (.cells #[.string nm, .int .i64 n, .int .i64 no, .int .i64 q, .int .i64 s, .slice a1 l.length c1, .int .i64 fr, .int .i64 b, .slice a2 zs.length c2] 36)
  have B1 : Below w.heap.size w w1 := (bel2 _ _).trans (hb1.mono (by simp; omega))
  have B2 := B1.trans (A1.mono B1.size)
  have y1 : w.heap.size + 1 < w1.heap.size := by have := hb1.size; simp at this; omega
  have O2 := owns_below (owns_lowerL o1 (show w.heap.size ≤ _ by simp; omega)) A1
  have K2 := owns_below (owns_lowerL k1 (show w.heap.size ≤ _ by simp; omega)) A1
  have hv : ∀ k, (Value.ownBlock (.slice a1 l.length c1)) = some k → k ≠ w.heap.size + 1 := fun k e => by have := owns_base o1 k e; simp at this; omega
  have hu : ∀ k, (Value.ownBlock (.slice a2 zs.length c2)) = some k → k ≠ w.heap.size + 1 := fun k e => by have := owns_base k1 k e; simp at this; omega
  clear hb1 A1 o1 k1 X0 Z0
  obtain ⟨⟨x0, x1, x2, x3, x4, x5, x6, x7, x8⟩, xf⟩ := blk9 X1
  go_wp2_with fail
  generalize (w1.alloc (.cells #[.string nm, .int .i64 n, .int .i64 no, .int .i64 q, .int .i64 s, .slice a1 l.length c1, .int .i64 fr, .int .i64 b, .slice a2 zs.length c2] 36)) = W1 at *
  cases h1 : nameB nm with
  | false =>
    refine (isName_valL nm _ _ h1).mono ?_
    rintro e w2 ⟨rfl, hb2⟩
    have Z2 := (hb2.block _ (lt_of_block Z1)).trans Z1
    have M2 := (hb2.block _ (lt_of_block M1)).trans M1
    have O3 := owns_below O2 hb2
    have K3 := owns_below K2 hb2
    have B3 := B2.trans (hb2.mono B2.size)
    obtain ⟨⟨m0, m1, m2, m3, m4, m5, m6, m7, m8⟩, mf⟩ := blk9 M2
    obtain ⟨⟨z0, z1, z2, z3, z4, z5, z6, z7, z8⟩, zf⟩ := blk9 Z2
    have hne : w1.heap.size ≠ w.heap.size + 1 := by omega
    go_wp2
    refine bodyPost_ret (v := .tuple #[.agg #[.string nm, .int .i64 n, .int .i64 no, .int .i64 q, .int .i64 s, .slice a1 l.length c1, .int .i64 fr, .int .i64 b, .slice a2 zs.length c2], .bool false]) (by simp [results, Try.results7, go_sem, *]) rfl ⟨_, _, rfl, ?_, ?_, ap, ?_⟩
    · iterate 9 (refine owns_set ?_ hv _ _)
      exact O3
    · iterate 9 (refine owns_set ?_ hu _ _)
      exact K3
    · iterate 9 (refine Below.setCell ?_ (by simp) _)
      exact B3
  | true =>
    have h2 : Hid (Cf.nextB ⟨nm, n, no, ⟨q, s, fr, b, some ⟨b0, o, none⟩, b0, o, cap, l⟩, some ⟨c0, p, none⟩, c0, p, ccap, zs⟩ now = false) := by show _ = _; have := HN.out; rw [h1] at this; simpa using this
    refine (isName_valL nm _ _ h1).mono ?_
    rintro e w2 ⟨rfl, hb2⟩
    have X2 := (hb2.block _ (lt_of_block X1)).trans X1
    have Z2 := (hb2.block _ (lt_of_block Z1)).trans Z1
    have M2 := (hb2.block _ (lt_of_block M1)).trans M1
    have O3 := owns_below O2 hb2
    have K3 := owns_below K2 hb2
    have B3 := B2.trans (hb2.mono B2.size)
    clear hb2 x0 x1 x2 x3 x4 x5 x6 x7 x8 xf X1 Z1 M1 O2 K2 B2
    obtain ⟨⟨x0, x1, x2, x3, x4, x5, x6, x7, x8⟩, xf⟩ := blk9 X2
    go_wp2_with fail
    refine (mayGoOn_val hI ⟨nm, n, no, ⟨q, s, fr, b, some ⟨b0, o, none⟩, b0, o, cap, l⟩, some ⟨c0, p, none⟩, c0, p, ccap, zs⟩ now false _ hl hz ⟨hs.below B3 hs.lt, hf.below B3 hf.lt⟩ h2.out).mono ?_
    rintro e w3 ⟨rfl, hb3⟩
    have Z4 := (hb3.block _ (lt_of_block Z2)).trans Z2
    have M4 := (hb3.block _ (lt_of_block M2)).trans M2
    have O4 := owns_below O3 hb3
    have K4 := owns_below K3 hb3
    have B4 := B3.trans (hb3.mono B3.size)
    obtain ⟨⟨m0, m1, m2, m3, m4, m5, m6, m7, m8⟩, mf⟩ := blk9 M4
    obtain ⟨⟨z0, z1, z2, z3, z4, z5, z6, z7, z8⟩, zf⟩ := blk9 Z4
    have hne : w1.heap.size ≠ w.heap.size + 1 := by omega
    go_wp2
    refine bodyPost_ret (v := .tuple #[.agg #[.string nm, .int .i64 n, .int .i64 no, .int .i64 q, .int .i64 s, .slice a1 l.length c1, .int .i64 fr, .int .i64 b, .slice a2 zs.length c2], .bool false]) (by simp [results, Try.results7, go_sem, *]) rfl ⟨_, _, rfl, ?_, ?_, ap, ?_⟩
    · iterate 9 (refine owns_set ?_ hv _ _)
      exact O4
    · iterate 9 (refine owns_set ?_ hu _ _)
      exact K4
    · iterate 9 (refine Below.setCell ?_ (by simp) _)
      exact B4
end Go.Proofs.Ytgkebobmfagklaa

namespace Go.Proofs.Ytgkebobmfagklaa
open Go.RowKit

theorem one_newI (w : World) (z : Int) (t : TypeId) : ∀ (j : Nat) (u : Value), [Value.int .i64 z][j]? = some u → (w.alloc (.cells #[.int .i64 z] t)).cell? ((⟨w.heap.size, 0, none⟩ : Addr).add j) = some u := by
  intro j u hj
  match j, hj with
  | 0, hj => simp at hj; subst hj; simp [Addr.add, go_sem]
  | j + 1, hj => simp at hj
theorem blk9_set8 {w : World} {B : Nat} {a b c d e f g h i : Value} {t : TypeId} (hb : w.heap[B]? = some (.cells #[a, b, c, d, e, f, g, h, i] t (0, 0))) (u : Value) : (w.setCell ⟨B, 8, none⟩ u).heap[B]? = some (.cells #[a, b, c, d, e, f, g, h, u] t (0, 0)) := by
  rw [heap_setCell_same w B 8 _ _ _ hb]; rfl

set_option maxRecDepth 20000 in
set_option maxHeartbeats 4000000 in
theorem moveI_yes (hI : SpansSaid) (nm : ByteArray) (n no q s fr b : Int) (b0 o cap : Nat) (l : List Stp) (c0 p ccap : Nat) (zs : List Int) (now : Int) (w : World) (hl : l.length ≤ 1048576) (hz : zs.length ≤ 1048576) (hs : StepsAt w (some ⟨b0, o, none⟩) b0 o l) (hf : IntsAt w (some ⟨c0, p, none⟩) c0 p zs) (h1 : nameB nm = true) (h2' : Cf.nextB ⟨nm, n, no, ⟨q, s, fr, b, some ⟨b0, o, none⟩, b0, o, cap, l⟩, some ⟨c0, p, none⟩, c0, p, ccap, zs⟩ now = true) :
    Calls Try.prog 7 #[.agg #[.string nm, .int .i64 n, .int .i64 no, .int .i64 q, .int .i64 s, .slice (some ⟨b0, o, none⟩) l.length cap, .int .i64 fr, .int .i64 b, .slice (some ⟨c0, p, none⟩) zs.length ccap], .int .i64 now] w
      fun e w' => ∃ v u, e = .returned (.tuple #[.agg #[.string nm, .int .i64 n, .int .i64 no, .int .i64 q, .int .i64 s, v, .int .i64 fr, .int .i64 b, u], .bool true]) ∧ w'.ownsRow w.heap.size 75 7 v l.length (stepCells l) ∧ w'.ownsRow w.heap.size 3 1 u (zs ++ [now]).length (intCells (zs ++ [now])) ∧ (∀ k k', v.ownBlock = some k → u.ownBlock = some k' → k ≠ k') ∧ Below w.heap.size w w' := by
  obtain ⟨i0, hi, hz0, hz1, hz2⟩ := info_parts int_info
  have h2 : Hid (Cf.nextB ⟨nm, n, no, ⟨q, s, fr, b, some ⟨b0, o, none⟩, b0, o, cap, l⟩, some ⟨c0, p, none⟩, c0, p, ccap, zs⟩ now = true) := h2'
  have H1 : Hid (nameB nm = true) := h1
  clear h2' h1
  have X0 := (Below.heap_alloc (w.alloc (.cells #[.string nm, .int .i64 n, .int .i64 no, .int .i64 q, .int .i64 s, .slice (some ⟨b0, o, none⟩) l.length cap, .int .i64 fr, .int .i64 b, .slice (some ⟨c0, p, none⟩) zs.length ccap] 36)) (.cells #[.string ⟨#[]⟩, .int .i64 0, .int .i64 0, .int .i64 0, .int .i64 0, .slice none 0 0, .int .i64 0, .int .i64 0, .slice none 0 0] 36) w.heap.size (by simp)).trans (heap_alloc_new w (.cells #[.string nm, .int .i64 n, .int .i64 no, .int .i64 q, .int .i64 s, .slice (some ⟨b0, o, none⟩) l.length cap, .int .i64 fr, .int .i64 b, .slice (some ⟨c0, p, none⟩) zs.length ccap] 36))
  have Z0 := heap_alloc_new (w.alloc (.cells #[.string nm, .int .i64 n, .int .i64 no, .int .i64 q, .int .i64 s, .slice (some ⟨b0, o, none⟩) l.length cap, .int .i64 fr, .int .i64 b, .slice (some ⟨c0, p, none⟩) zs.length ccap] 36)) (.cells #[.string ⟨#[]⟩, .int .i64 0, .int .i64 0, .int .i64 0, .int .i64 0, .slice none 0 0, .int .i64 0, .int .i64 0, .slice none 0 0] 36)
  rw [World.size_alloc] at Z0
  go_enter Try.func7, Try.ntmps7
  go_wp2_with fail
  refine (copied_any nm n no q s fr b b0 o cap l c0 p ccap zs _ hl hz (hs.below (bel2 _ _) hs.lt) (hf.below (bel2 _ _) hf.lt)).mono ?_
  rintro e w1 ⟨v1, u1, rfl, o1, k1, ap, hb1⟩
  obtain ⟨a1, c1, rfl⟩ := owns_sliceL o1
  obtain ⟨a2, c2, rfl⟩ := owns_sliceL k1
  have A1 := bel1 (w := w1) (.cells #[.string nm, .int .i64 n, .int .i64 no, .int .i64 q, .int .i64 s, .slice a1 l.length c1, .int .i64 fr, .int .i64 b, .slice a2 zs.length c2] 36)
  have X1 := (A1.block _ (by have := hb1.size; simp at this; omega)).trans ((hb1.block _ (by simp; omega)).trans X0)
  have Z1 := (A1.block _ (by have := hb1.size; simp at this; omega)).trans ((hb1.block _ (by simp)).trans Z0)
  have M1 := heap_alloc_new w1 (.cells #[.string nm, .int .i64 n, .int .i64 no, .int .i64 q, .int .i64 s, .slice a1 l.length c1, .int .i64 fr, .int .i64 b, .slice a2 zs.length c2] 36)
  have B1 : Below w.heap.size w w1 := (bel2 _ _).trans (hb1.mono (by simp; omega))
  have B2 := B1.trans (A1.mono B1.size)
  have y1 : w.heap.size + 1 < w1.heap.size := by have := hb1.size; simp at this; omega
  have O2 := owns_below (owns_lowerL o1 (show w.heap.size ≤ _ by simp; omega)) A1
  have K2 := owns_below (owns_lowerL k1 (show w.heap.size + 1 + 1 ≤ _ by simp)) A1
  have hv : ∀ k, (Value.ownBlock (.slice a1 l.length c1)) = some k → w.heap.size + 1 < k ∧ k < w1.heap.size := fun k e => by have h1 := owns_base o1 k e; have h2 := owns_lt o1 k e; simp at h1; omega
  have hu : ∀ k, (Value.ownBlock (.slice a2 zs.length c2)) = some k → w.heap.size + 1 < k ∧ k < w1.heap.size := fun k e => by have h1 := owns_base k1 k e; have h2 := owns_lt k1 k e; simp at h1; omega
  clear hb1 A1 o1 k1 X0 Z0
  obtain ⟨⟨x0, x1, x2, x3, x4, x5, x6, x7, x8⟩, xf⟩ := blk9 X1
  go_wp2_with fail
  generalize (w1.alloc (.cells #[.string nm, .int .i64 n, .int .i64 no, .int .i64 q, .int .i64 s, .slice a1 l.length c1, .int .i64 fr, .int .i64 b, .slice a2 zs.length c2] 36)) = W1 at *
  refine (isName_valL nm _ _ H1.out).mono ?_
  rintro e w2 ⟨rfl, hb2⟩
  have X2 := (hb2.block _ (lt_of_block X1)).trans X1
  have Z2 := (hb2.block _ (lt_of_block Z1)).trans Z1
  have M2 := (hb2.block _ (lt_of_block M1)).trans M1
  have O3 := owns_below O2 hb2
  have K3 := owns_below K2 hb2
  have B3 := B2.trans (hb2.mono B2.size)
  clear hb2 x0 x1 x2 x3 x4 x5 x6 x7 x8 xf X1 Z1 M1 O2 K2 B2
  obtain ⟨⟨x0, x1, x2, x3, x4, x5, x6, x7, x8⟩, xf⟩ := blk9 X2
  go_wp2_with fail
  refine (mayGoOn_val hI ⟨nm, n, no, ⟨q, s, fr, b, some ⟨b0, o, none⟩, b0, o, cap, l⟩, some ⟨c0, p, none⟩, c0, p, ccap, zs⟩ now true _ hl hz ⟨hs.below B3 hs.lt, hf.below B3 hf.lt⟩ h2.out).mono ?_
  rintro e w3 ⟨rfl, hb3⟩
  have K5 := bel1 (w := w3) (.cells #[.int .i64 now] 3)
  have Z4 := (hb3.block _ (lt_of_block Z2)).trans Z2
  have M4 := (hb3.block _ (lt_of_block M2)).trans M2
  have O4 := owns_below O3 hb3
  have K4 := owns_below K3 hb3
  have B4 := B3.trans (hb3.mono B3.size)
  have Z5 := (K5.block _ (lt_of_block Z4)).trans Z4
  have M5 := (K5.block _ (lt_of_block M4)).trans M4
  have O5 := owns_below O4 K5
  have R5 := owns_below K4 K5
  have B5 := B4.trans (K5.mono B4.size)
  have zM := lt_of_block M4
  obtain ⟨⟨m0, m1, m2, m3, m4, m5, m6, m7, m8⟩, mf⟩ := blk9 M4
  clear X2 x0 x1 x2 x3 x4 x5 x6 x7 x8 xf Z2 M2 O3 K3 B3 hb3 Z4 O4 K4 B4 K5
  go_wp2_with (at_builtin; refine wpList_append_own_at _ rfl (.tmp 21) (.tmp 23) 27 rfl (w.heap.size + 1 + 1) 3 i0 (.int .i64 0) 1 8 Try.underlying27 hi hz0 hz1 hz2 rfl (by decide) (.slice a2 zs.length c2) _ _ rfl R5 ⟨w3.heap.size, 0, none⟩ 1 1 [.int .i64 now] rfl rfl (one_newI w3 now _) (by simp [Value.oneCell']) (by unfold maxLen; omega) (by omega) (by simp; omega) ?_; intro v7 w7 hown7 hgrow7 hnil7 hat7; have M7 := (hgrow7.block _ (lt_of_block M5) (fun e => by have := hu _ e.symm; omega)).trans M5; have Z7 := (hgrow7.block _ (lt_of_block Z5) (fun e => by have := hu _ e.symm; omega)).trans Z5; obtain ⟨⟨r0, r1, r2, r3, r4, r5, r6, r7, r8⟩, rf⟩ := blk9 M7; obtain ⟨a7, c7, rfl⟩ := owns_sliceL hown7; have M8 := blk9_set8 M7 (.slice a7 (zs.length + 1) c7); have Z8 := (heap_setCell_other w7 ⟨w1.heap.size, 8, none⟩ (w.heap.size + 1) (.slice a7 (zs.length + 1) c7) (by show w.heap.size + 1 ≠ w1.heap.size; omega)).trans Z7; obtain ⟨⟨s0, s1, s2, s3, s4, s5, s6, s7, s8⟩, sf⟩ := blk9 M8; obtain ⟨⟨z0, z1, z2, z3, z4, z5, z6, z7, z8⟩, zf⟩ := blk9 Z8)
  have hne : w1.heap.size ≠ w.heap.size + 1 := by omega
  have ap7 : ∀ k k', (Value.ownBlock (.slice a1 l.length c1)) = some k → (Value.ownBlock (.slice a7 (zs.length + 1) c7)) = some k' → k ≠ k' := fun k k' e e' => by
    rcases hat7 with h | h
    · exact ap k k' e (by rw [← h]; exact e')
    · have h1 := hv k e
      rw [h] at e'
      simp at e'
      omega
  have O7 := O5.kept hgrow7 (by
    cases h3 : (Value.ownBlock (.slice a1 l.length c1)) with
    | none => exact Or.inl rfl
    | some k => exact Or.inr (fun e => ap k k h3 e.symm rfl))
  have B7 := B5.grown hgrow7 B5.size (fun k e => by have := hu k e; omega)
  have hu7 : ∀ k, (Value.ownBlock (.slice a7 (zs.length + 1) c7)) = some k → k ≠ w.heap.size + 1 ∧ k ≠ w1.heap.size := fun k e => by
    rcases hat7 with h | h
    · have := hu k (by rw [← h]; exact e)
      omega
    · rw [h] at e
      simp at e
      omega
  go_wp2
  refine bodyPost_ret (v := .tuple #[.agg #[.string nm, .int .i64 n, .int .i64 no, .int .i64 q, .int .i64 s, .slice a1 l.length c1, .int .i64 fr, .int .i64 b, .slice a7 (zs.length + 1) c7], .bool true]) (by simp [results, Try.results7, go_sem, *]) rfl ⟨_, _, rfl, ?_, ?_, ap7, ?_⟩
  · iterate 10 (refine owns_set ?_ (fun k e => by have := hv k e; omega) _ _)
    exact O7
  · rw [intCells_snoc, List.length_append]
    iterate 10 (refine owns_set ?_ (fun k e => by have := hu7 k e; first | exact this.1 | exact this.2) _ _)
    exact owns_lowerL hown7 (by omega)
  · iterate 10 (refine Below.setCell ?_ (by simp <;> omega) _)
    exact B7
end Go.Proofs.Ytgkebobmfagklaa

namespace Go.Proofs.Ytgkebobmfagklaa
open Go.RowKit

theorem nextB_go {t : Cf} {now : Int} (h : goB t.p.q t.p.s t.p.fr t.p.b t.p.l t.zs = false) : t.nextB now = false := by unfold Cf.nextB; rw [h]; rfl

set_option maxRecDepth 20000 in
set_option maxHeartbeats 4000000 in
theorem moveS_no (nm : ByteArray) (n no q s fr b : Int) (b0 o cap : Nat) (l : List Stp) (c0 p ccap : Nat) (zs : List Int) (now : Int) (w : World) (hl : l.length ≤ 1048576) (hz : zs.length ≤ 1048576) (hs : StepsAt w (some ⟨b0, o, none⟩) b0 o l) (hf : IntsAt w (some ⟨c0, p, none⟩) c0 p zs) (hno : (nameB nm && Cf.nextB ⟨nm, n, no, ⟨q, s, fr, b, some ⟨b0, o, none⟩, b0, o, cap, l⟩, some ⟨c0, p, none⟩, c0, p, ccap, zs⟩ now) = false) :
    Calls Try.prog 5 #[.agg #[.string nm, .int .i64 n, .int .i64 no, .int .i64 q, .int .i64 s, .slice (some ⟨b0, o, none⟩) l.length cap, .int .i64 fr, .int .i64 b, .slice (some ⟨c0, p, none⟩) zs.length ccap], .int .i64 now] w
      fun e w' => ∃ v u, e = .returned (.tuple #[.agg #[.string nm, .int .i64 n, .int .i64 no, .int .i64 q, .int .i64 s, v, .int .i64 fr, .int .i64 b, u], .bool false]) ∧ w'.ownsRow w.heap.size 75 7 v l.length (stepCells l) ∧ w'.ownsRow w.heap.size 3 1 u zs.length (intCells zs) ∧ (∀ k k', v.ownBlock = some k → u.ownBlock = some k' → k ≠ k') ∧ Below w.heap.size w w' := by
  have HN : Hid ((nameB nm && Cf.nextB ⟨nm, n, no, ⟨q, s, fr, b, some ⟨b0, o, none⟩, b0, o, cap, l⟩, some ⟨c0, p, none⟩, c0, p, ccap, zs⟩ now) = false) := hno
  clear hno
  obtain ⟨W0, hW0⟩ : ∃ W0, (w.alloc (.cells #[.string nm, .int .i64 n, .int .i64 no, .int .i64 q, .int .i64 s, .slice (some ⟨b0, o, none⟩) l.length cap, .int .i64 fr, .int .i64 b, .slice (some ⟨c0, p, none⟩) zs.length ccap] 36)).alloc (.cells #[.string ⟨#[]⟩, .int .i64 0, .int .i64 0, .int .i64 0, .int .i64 0, .slice none 0 0, .int .i64 0, .int .i64 0, .slice none 0 0] 36) = W0 := ⟨_, rfl⟩
  have X0 := (Below.heap_alloc (w.alloc (.cells #[.string nm, .int .i64 n, .int .i64 no, .int .i64 q, .int .i64 s, .slice (some ⟨b0, o, none⟩) l.length cap, .int .i64 fr, .int .i64 b, .slice (some ⟨c0, p, none⟩) zs.length ccap] 36)) (.cells #[.string ⟨#[]⟩, .int .i64 0, .int .i64 0, .int .i64 0, .int .i64 0, .slice none 0 0, .int .i64 0, .int .i64 0, .slice none 0 0] 36) w.heap.size (by simp)).trans (heap_alloc_new w (.cells #[.string nm, .int .i64 n, .int .i64 no, .int .i64 q, .int .i64 s, .slice (some ⟨b0, o, none⟩) l.length cap, .int .i64 fr, .int .i64 b, .slice (some ⟨c0, p, none⟩) zs.length ccap] 36))
  have Z0 := heap_alloc_new (w.alloc (.cells #[.string nm, .int .i64 n, .int .i64 no, .int .i64 q, .int .i64 s, .slice (some ⟨b0, o, none⟩) l.length cap, .int .i64 fr, .int .i64 b, .slice (some ⟨c0, p, none⟩) zs.length ccap] 36)) (.cells #[.string ⟨#[]⟩, .int .i64 0, .int .i64 0, .int .i64 0, .int .i64 0, .slice none 0 0, .int .i64 0, .int .i64 0, .slice none 0 0] 36)
  have B0 : Below w.heap.size w W0 := by rw [← hW0]; exact bel2 _ _
  rw [World.size_alloc, hW0] at Z0
  rw [hW0] at X0
  have P0 : TwoB W0 w.heap.size #[.string nm, .int .i64 n, .int .i64 no, .int .i64 q, .int .i64 s, .slice (some ⟨b0, o, none⟩) l.length cap, .int .i64 fr, .int .i64 b, .slice (some ⟨c0, p, none⟩) zs.length ccap] #[.string ⟨#[]⟩, .int .i64 0, .int .i64 0, .int .i64 0, .int .i64 0, .slice none 0 0, .int .i64 0, .int .i64 0, .slice none 0 0] 36 := ⟨X0, Z0⟩
  obtain ⟨⟨x0, x1, x2, x3, x4, x5, x6, x7, x8⟩, xf⟩ := blk9 X0
  clear X0 Z0
  go_enter Try.func5, Try.ntmps5
  go_wp2_with fail
  refine (nameS_any nm _).mono ?_
  rintro e w1 ⟨rfl, hw1⟩
  have hw2 := hw1.symm
  subst hw2
  clear hW0
  cases h1 : nameB nm with
  | false =>
    go_wp2_with fail
    refine (craftS_any nm n no q s fr b b0 o cap l c0 p ccap zs _ hl hz (hs.below B0 hs.lt) (hf.below B0 hf.lt)).mono ?_
    rintro e w9 ⟨v9, u9, rfl, o9, k9, ap, hb9⟩
    obtain ⟨a1, c1, rfl⟩ := owns_sliceL o9
    obtain ⟨a2, c2, rfl⟩ := owns_sliceL k9
    have P9 := P0.below hb9
    have B9 := B0.trans (hb9.mono B0.size)
    have z9 := P0.lt
    have zW := B0.size
    obtain ⟨⟨g0, g1, g2, g3, g4, g5, g6, g7, g8⟩, gf⟩ := blk9 P9.z
    go_wp2
    refine bodyPost_ret (v := .tuple #[.agg #[.string nm, .int .i64 n, .int .i64 no, .int .i64 q, .int .i64 s, .slice a1 l.length c1, .int .i64 fr, .int .i64 b, .slice a2 zs.length c2], .bool false]) (by simp [results, Try.results5, go_sem, *]) rfl ⟨_, _, rfl, ?_, ?_, ap, ?_⟩
    · iterate 9 (refine owns_set ?_ (fun k e => by have := owns_base o9 k e; omega) _ _)
      exact owns_lowerL o9 zW
    · iterate 9 (refine owns_set ?_ (fun k e => by have := owns_base k9 k e; omega) _ _)
      exact owns_lowerL k9 zW
    · iterate 9 (refine Below.setCell ?_ (by simp) _)
      exact B9
  | true =>
    have h2 : Hid (Cf.nextB ⟨nm, n, no, ⟨q, s, fr, b, some ⟨b0, o, none⟩, b0, o, cap, l⟩, some ⟨c0, p, none⟩, c0, p, ccap, zs⟩ now = false) := by show _ = _; have := HN.out; rw [h1] at this; simpa using this
    clear HN h1
    go_wp2_with fail
    refine (begunS_any q s fr b b0 o cap l c0 p ccap zs _ hl hz (hs.below B0 hs.lt) (hf.below B0 hf.lt)).mono ?_
    rintro e w2 ⟨rfl, hb2⟩
    have P2 := P0.below hb2
    have B2 := B0.trans (hb2.mono B0.size)
    clear x0 x1 x2 x3 x4 x5 x6 x7 x8 xf P0 B0 hb2
    obtain ⟨⟨x0, x1, x2, x3, x4, x5, x6, x7, x8⟩, xf⟩ := blk9 P2.x
    cases hg : goB q s fr b l zs with
    | false =>
      go_wp2_with fail
      refine (craftS_any nm n no q s fr b b0 o cap l c0 p ccap zs _ hl hz (hs.below B2 hs.lt) (hf.below B2 hf.lt)).mono ?_
      rintro e w9 ⟨v9, u9, rfl, o9, k9, ap, hb9⟩
      obtain ⟨a1, c1, rfl⟩ := owns_sliceL o9
      obtain ⟨a2, c2, rfl⟩ := owns_sliceL k9
      have P9 := P2.below hb9
      have B9 := B2.trans (hb9.mono B2.size)
      have z9 := P2.lt
      have zW := B2.size
      obtain ⟨⟨g0, g1, g2, g3, g4, g5, g6, g7, g8⟩, gf⟩ := blk9 P9.z
      go_wp2
      refine bodyPost_ret (v := .tuple #[.agg #[.string nm, .int .i64 n, .int .i64 no, .int .i64 q, .int .i64 s, .slice a1 l.length c1, .int .i64 fr, .int .i64 b, .slice a2 zs.length c2], .bool false]) (by simp [results, Try.results5, go_sem, *]) rfl ⟨_, _, rfl, ?_, ?_, ap, ?_⟩
      · iterate 9 (refine owns_set ?_ (fun k e => by have := owns_base o9 k e; omega) _ _)
        exact owns_lowerL o9 zW
      · iterate 9 (refine owns_set ?_ (fun k e => by have := owns_base k9 k e; omega) _ _)
        exact owns_lowerL k9 zW
      · iterate 9 (refine Below.setCell ?_ (by simp) _)
        exact B9
    | true =>
      clear hg
      go_wp2_with fail
      refine (craftNextS_any ⟨nm, n, no, ⟨q, s, fr, b, some ⟨b0, o, none⟩, b0, o, cap, l⟩, some ⟨c0, p, none⟩, c0, p, ccap, zs⟩ now _ hl hz ⟨hs.below B2 hs.lt, hf.below B2 hf.lt⟩).mono ?_
      rw [h2.out]
      rintro e w3 ⟨rfl, hb3⟩
      have P3 := P2.below hb3
      have B3 := B2.trans (hb3.mono B2.size)
      clear x0 x1 x2 x3 x4 x5 x6 x7 x8 xf P2 B2 hb3
      obtain ⟨⟨x0, x1, x2, x3, x4, x5, x6, x7, x8⟩, xf⟩ := blk9 P3.x
      go_wp2_with fail
      refine (craftS_any nm n no q s fr b b0 o cap l c0 p ccap zs _ hl hz (hs.below B3 hs.lt) (hf.below B3 hf.lt)).mono ?_
      rintro e w9 ⟨v9, u9, rfl, o9, k9, ap, hb9⟩
      obtain ⟨a1, c1, rfl⟩ := owns_sliceL o9
      obtain ⟨a2, c2, rfl⟩ := owns_sliceL k9
      have P9 := P3.below hb9
      have B9 := B3.trans (hb9.mono B3.size)
      have z9 := P3.lt
      have zW := B3.size
      obtain ⟨⟨g0, g1, g2, g3, g4, g5, g6, g7, g8⟩, gf⟩ := blk9 P9.z
      go_wp2
      refine bodyPost_ret (v := .tuple #[.agg #[.string nm, .int .i64 n, .int .i64 no, .int .i64 q, .int .i64 s, .slice a1 l.length c1, .int .i64 fr, .int .i64 b, .slice a2 zs.length c2], .bool false]) (by simp [results, Try.results5, go_sem, *]) rfl ⟨_, _, rfl, ?_, ?_, ap, ?_⟩
      · iterate 9 (refine owns_set ?_ (fun k e => by have := owns_base o9 k e; omega) _ _)
        exact owns_lowerL o9 zW
      · iterate 9 (refine owns_set ?_ (fun k e => by have := owns_base k9 k e; omega) _ _)
        exact owns_lowerL k9 zW
      · iterate 9 (refine Below.setCell ?_ (by simp) _)
        exact B9

set_option maxRecDepth 20000 in
set_option maxHeartbeats 4000000 in
theorem moveS_yes (nm : ByteArray) (n no q s fr b : Int) (b0 o cap : Nat) (l : List Stp) (c0 p ccap : Nat) (zs : List Int) (now : Int) (w : World) (hl : l.length ≤ 1048576) (hz : zs.length ≤ 1048576) (hs : StepsAt w (some ⟨b0, o, none⟩) b0 o l) (hf : IntsAt w (some ⟨c0, p, none⟩) c0 p zs) (h1' : nameB nm = true) (h2' : Cf.nextB ⟨nm, n, no, ⟨q, s, fr, b, some ⟨b0, o, none⟩, b0, o, cap, l⟩, some ⟨c0, p, none⟩, c0, p, ccap, zs⟩ now = true) :
    Calls Try.prog 5 #[.agg #[.string nm, .int .i64 n, .int .i64 no, .int .i64 q, .int .i64 s, .slice (some ⟨b0, o, none⟩) l.length cap, .int .i64 fr, .int .i64 b, .slice (some ⟨c0, p, none⟩) zs.length ccap], .int .i64 now] w
      fun e w' => ∃ v u, e = .returned (.tuple #[.agg #[.string nm, .int .i64 n, .int .i64 no, .int .i64 q, .int .i64 s, v, .int .i64 fr, .int .i64 b, u], .bool true]) ∧ w'.ownsRow w.heap.size 75 7 v l.length (stepCells l) ∧ w'.ownsRow w.heap.size 3 1 u (zs ++ [now]).length (intCells (zs ++ [now])) ∧ (∀ k k', v.ownBlock = some k → u.ownBlock = some k' → k ≠ k') ∧ Below w.heap.size w w' := by
  obtain ⟨i0, hi, hz0, hz1, hz2⟩ := info_parts int_info
  have h1 : Hid (nameB nm = true) := h1'
  have h2 : Hid (Cf.nextB ⟨nm, n, no, ⟨q, s, fr, b, some ⟨b0, o, none⟩, b0, o, cap, l⟩, some ⟨c0, p, none⟩, c0, p, ccap, zs⟩ now = true) := h2'
  have hg : Hid (goB q s fr b l zs = true) := by
    show _ = _
    cases h : goB q s fr b l zs with
    | true => rfl
    | false => rw [nextB_go (t := ⟨nm, n, no, ⟨q, s, fr, b, some ⟨b0, o, none⟩, b0, o, cap, l⟩, some ⟨c0, p, none⟩, c0, p, ccap, zs⟩) h] at h2'; cases h2'
  clear h1' h2'
  obtain ⟨W0, hW0⟩ : ∃ W0, (w.alloc (.cells #[.string nm, .int .i64 n, .int .i64 no, .int .i64 q, .int .i64 s, .slice (some ⟨b0, o, none⟩) l.length cap, .int .i64 fr, .int .i64 b, .slice (some ⟨c0, p, none⟩) zs.length ccap] 36)).alloc (.cells #[.string ⟨#[]⟩, .int .i64 0, .int .i64 0, .int .i64 0, .int .i64 0, .slice none 0 0, .int .i64 0, .int .i64 0, .slice none 0 0] 36) = W0 := ⟨_, rfl⟩
  have X0 := (Below.heap_alloc (w.alloc (.cells #[.string nm, .int .i64 n, .int .i64 no, .int .i64 q, .int .i64 s, .slice (some ⟨b0, o, none⟩) l.length cap, .int .i64 fr, .int .i64 b, .slice (some ⟨c0, p, none⟩) zs.length ccap] 36)) (.cells #[.string ⟨#[]⟩, .int .i64 0, .int .i64 0, .int .i64 0, .int .i64 0, .slice none 0 0, .int .i64 0, .int .i64 0, .slice none 0 0] 36) w.heap.size (by simp)).trans (heap_alloc_new w (.cells #[.string nm, .int .i64 n, .int .i64 no, .int .i64 q, .int .i64 s, .slice (some ⟨b0, o, none⟩) l.length cap, .int .i64 fr, .int .i64 b, .slice (some ⟨c0, p, none⟩) zs.length ccap] 36))
  have Z0 := heap_alloc_new (w.alloc (.cells #[.string nm, .int .i64 n, .int .i64 no, .int .i64 q, .int .i64 s, .slice (some ⟨b0, o, none⟩) l.length cap, .int .i64 fr, .int .i64 b, .slice (some ⟨c0, p, none⟩) zs.length ccap] 36)) (.cells #[.string ⟨#[]⟩, .int .i64 0, .int .i64 0, .int .i64 0, .int .i64 0, .slice none 0 0, .int .i64 0, .int .i64 0, .slice none 0 0] 36)
  have B0 : Below w.heap.size w W0 := by rw [← hW0]; exact bel2 _ _
  rw [World.size_alloc, hW0] at Z0
  rw [hW0] at X0
  have P0 : TwoB W0 w.heap.size #[.string nm, .int .i64 n, .int .i64 no, .int .i64 q, .int .i64 s, .slice (some ⟨b0, o, none⟩) l.length cap, .int .i64 fr, .int .i64 b, .slice (some ⟨c0, p, none⟩) zs.length ccap] #[.string ⟨#[]⟩, .int .i64 0, .int .i64 0, .int .i64 0, .int .i64 0, .slice none 0 0, .int .i64 0, .int .i64 0, .slice none 0 0] 36 := ⟨X0, Z0⟩
  obtain ⟨⟨x0, x1, x2, x3, x4, x5, x6, x7, x8⟩, xf⟩ := blk9 X0
  clear X0 Z0
  go_enter Try.func5, Try.ntmps5
  go_wp2_with fail
  refine (nameS_any nm _).mono ?_
  rintro e w1 ⟨rfl, hw1⟩
  have hw2 := hw1.symm
  subst hw2
  clear hW0
  rw [h1.out]
  go_wp2_with fail
  refine (begunS_any q s fr b b0 o cap l c0 p ccap zs _ hl hz (hs.below B0 hs.lt) (hf.below B0 hf.lt)).mono ?_
  rw [hg.out]
  rintro e w2 ⟨rfl, hb2⟩
  have P2 := P0.below hb2
  have B2 := B0.trans (hb2.mono B0.size)
  clear x0 x1 x2 x3 x4 x5 x6 x7 x8 xf P0 B0 hb2
  obtain ⟨⟨x0, x1, x2, x3, x4, x5, x6, x7, x8⟩, xf⟩ := blk9 P2.x
  go_wp2_with fail
  refine (craftNextS_any ⟨nm, n, no, ⟨q, s, fr, b, some ⟨b0, o, none⟩, b0, o, cap, l⟩, some ⟨c0, p, none⟩, c0, p, ccap, zs⟩ now _ hl hz ⟨hs.below B2 hs.lt, hf.below B2 hf.lt⟩).mono ?_
  rw [h2.out]
  rintro e w3 ⟨rfl, hb3⟩
  have P3 := P2.below hb3
  have B3 := B2.trans (hb3.mono B2.size)
  clear x0 x1 x2 x3 x4 x5 x6 x7 x8 xf P2 B2 hb3
  obtain ⟨⟨x0, x1, x2, x3, x4, x5, x6, x7, x8⟩, xf⟩ := blk9 P3.x
  go_wp2_with fail
  refine (craftS_any nm n no q s fr b b0 o cap l c0 p ccap zs _ hl hz (hs.below B3 hs.lt) (hf.below B3 hf.lt)).mono ?_
  rintro e w9 ⟨v9, u9, rfl, o9, k9, ap, hb9⟩
  obtain ⟨a1, c1, rfl⟩ := owns_sliceL o9
  obtain ⟨a2, c2, rfl⟩ := owns_sliceL k9
  have A9 := bel1 (w := w9) (.cells #[.string nm, .int .i64 n, .int .i64 no, .int .i64 q, .int .i64 s, .slice a1 l.length c1, .int .i64 fr, .int .i64 b, .slice a2 zs.length c2] 36)
  have P9 := P3.below hb9
  have B9 := B3.trans (hb9.mono B3.size)
  have z9 := P3.lt
  have y9 := P9.lt
  have zW := B3.size
  have hv : ∀ k, (Value.ownBlock (.slice a1 l.length c1)) = some k → w.heap.size + 1 < k ∧ k < w9.heap.size := fun k e => by have h1 := owns_base o9 k e; have h2 := owns_lt o9 k e; omega
  have hu : ∀ k, (Value.ownBlock (.slice a2 zs.length c2)) = some k → w.heap.size + 1 < k ∧ k < w9.heap.size := fun k e => by have h1 := owns_base k9 k e; have h2 := owns_lt k9 k e; omega
  have M4 := heap_alloc_new w9 (.cells #[.string nm, .int .i64 n, .int .i64 no, .int .i64 q, .int .i64 s, .slice a1 l.length c1, .int .i64 fr, .int .i64 b, .slice a2 zs.length c2] 36)
  have K5 := bel1 (w := w9.alloc (.cells #[.string nm, .int .i64 n, .int .i64 no, .int .i64 q, .int .i64 s, .slice a1 l.length c1, .int .i64 fr, .int .i64 b, .slice a2 zs.length c2] 36)) (.cells #[.int .i64 now] 3)
  have Z5 := (K5.block _ (lt_of_block ((P9.below A9).z))).trans (P9.below A9).z
  have M5 := (K5.block _ (lt_of_block M4)).trans M4
  have O5 := owns_below (owns_below (owns_lowerL o9 zW) A9) K5
  have R5 := owns_below (owns_below (owns_lowerL k9 (show w.heap.size + 1 + 1 ≤ w3.heap.size by omega)) A9) K5
  have B5 := (B9.trans (A9.mono B9.size)).trans (K5.mono (Nat.le_trans B9.size A9.size))
  have zM := lt_of_block M4
  obtain ⟨⟨m0, m1, m2, m3, m4, m5, m6, m7, m8⟩, mf⟩ := blk9 M4
  have hone := one_newI (w9.alloc (.cells #[.string nm, .int .i64 n, .int .i64 no, .int .i64 q, .int .i64 s, .slice a1 l.length c1, .int .i64 fr, .int .i64 b, .slice a2 zs.length c2] 36)) now 3
  rw [World.size_alloc] at hone
  clear x0 x1 x2 x3 x4 x5 x6 x7 x8 xf P3 B3 o9 k9 hb9 A9 K5
  go_wp2_with (at_builtin; refine wpList_append_own_at _ rfl (.tmp 30) (.tmp 32) 27 rfl (w.heap.size + 1 + 1) 3 i0 (.int .i64 0) 1 8 Try.underlying27 hi hz0 hz1 hz2 rfl (by decide) (.slice a2 zs.length c2) _ _ rfl R5 ⟨w9.heap.size + 1, 0, none⟩ 1 1 [.int .i64 now] rfl rfl hone (by simp [Value.oneCell']) (by unfold maxLen; omega) (by omega) (by simp; omega) ?_; intro v7 w7 hown7 hgrow7 hnil7 hat7; have M7 := (hgrow7.block _ (lt_of_block M5) (fun e => by have := hu _ e.symm; omega)).trans M5; have Z7 := (hgrow7.block _ (lt_of_block Z5) (fun e => by have := hu _ e.symm; omega)).trans Z5; obtain ⟨⟨r0, r1, r2, r3, r4, r5, r6, r7, r8⟩, rf⟩ := blk9 M7; obtain ⟨a7, c7, rfl⟩ := owns_sliceL hown7; have M8 := blk9_set8 M7 (.slice a7 (zs.length + 1) c7); have Z8 := (heap_setCell_other w7 ⟨w9.heap.size, 8, none⟩ (w.heap.size + 1) (.slice a7 (zs.length + 1) c7) (by show w.heap.size + 1 ≠ w9.heap.size; omega)).trans Z7; obtain ⟨⟨s0, s1, s2, s3, s4, s5, s6, s7, s8⟩, sf⟩ := blk9 M8; obtain ⟨⟨g0, g1, g2, g3, g4, g5, g6, g7, g8⟩, gf⟩ := blk9 Z8)
  have hne : w9.heap.size ≠ w.heap.size + 1 := by omega
  have ap7 : ∀ k k', (Value.ownBlock (.slice a1 l.length c1)) = some k → (Value.ownBlock (.slice a7 (zs.length + 1) c7)) = some k' → k ≠ k' := fun k k' e e' => by
    rcases hat7 with h | h
    · exact ap k k' e (by rw [← h]; exact e')
    · have h1 := hv k e
      rw [h] at e'
      simp at e'
      omega
  have O7 := O5.kept hgrow7 (by
    cases h3 : (Value.ownBlock (.slice a1 l.length c1)) with
    | none => exact Or.inl rfl
    | some k => exact Or.inr (fun e => ap k k h3 e.symm rfl))
  have B7 := B5.grown hgrow7 B5.size (fun k e => by have := hu k e; omega)
  have hu7 : ∀ k, (Value.ownBlock (.slice a7 (zs.length + 1) c7)) = some k → k ≠ w.heap.size + 1 ∧ k ≠ w9.heap.size := fun k e => by
    rcases hat7 with h | h
    · have := hu k (by rw [← h]; exact e)
      omega
    · rw [h] at e
      simp at e
      omega
  go_wp2
  refine bodyPost_ret (v := .tuple #[.agg #[.string nm, .int .i64 n, .int .i64 no, .int .i64 q, .int .i64 s, .slice a1 l.length c1, .int .i64 fr, .int .i64 b, .slice a7 (zs.length + 1) c7], .bool true]) (by simp [results, Try.results5, go_sem, *]) rfl ⟨_, _, rfl, ?_, ?_, ap7, ?_⟩
  · iterate 10 (refine owns_set ?_ (fun k e => by have := hv k e; omega) _ _)
    exact O7
  · rw [intCells_snoc, List.length_append]
    iterate 10 (refine owns_set ?_ (fun k e => by have := hu7 k e; first | exact this.1 | exact this.2) _ _)
    exact owns_lowerL hown7 (by omega)
  · iterate 10 (refine Below.setCell ?_ (by simp <;> omega) _)
    exact B7
end Go.Proofs.Ytgkebobmfagklaa

namespace Go.Proofs.Ytgkebobmfagklaa
open Go.RowKit

set_option maxHeartbeats 4000000 in
set_option maxRecDepth 20000 in
theorem markSteps_any (k0 : Int) (g cap n : Nat) (w : World) (hn : n ≤ 1048576) (hk : 0 ≤ k0 ∧ k0 ≤ 1000) (hth : ∀ i, i < n → w.there g (i * 7) 7) :
    Calls Try.prog 45 #[.slice (some ⟨g, 0, none⟩) n cap, .int .i64 k0] w
      fun e w' => e = .returned (.int .i64 (k0 + ((n * 7 : Nat) : Int))) ∧ w.grownBy w' (some g) ∧ w'.heap.size = w.heap.size := by
  obtain ⟨k1, k2⟩ := hk
  go_enter Try.func45, Try.ntmps45
  go_wp2
  go_loopw [1, 5] (fun v u wr => ∃ i : Nat, i ≤ n ∧ u = .int .i64 i ∧ v = .int .i64 (k0 + ((i * 7 : Nat) : Int)) ∧ (∀ j, j < n → wr.there g (j * 7) 7) ∧ w.grownBy wr (some g) ∧ wr.heap.size = w.heap.size) (fun _ u _ => n - (intOf u).toNat)
  case atStart => exact ⟨0, Nat.zero_le _, rfl, by simp, hth, ⟨rfl, rfl, rfl, Nat.le_refl _, fun _ _ _ => rfl⟩, rfl⟩
  case round =>
    clear hth
    obtain ⟨i, hi, rfl, rfl, hth, hg, hz⟩ := hrel
    by_cases hlt : i < n
    · have ht := hth i hlt
      obtain ⟨v0, c0⟩ := Option.isSome_iff_exists.1 (ht 0 (by omega)).1
      obtain ⟨v1, c1⟩ := Option.isSome_iff_exists.1 (ht 1 (by omega)).1
      obtain ⟨v2, c2⟩ := Option.isSome_iff_exists.1 (ht 2 (by omega)).1
      obtain ⟨v3, c3⟩ := Option.isSome_iff_exists.1 (ht 3 (by omega)).1
      obtain ⟨v4, c4⟩ := Option.isSome_iff_exists.1 (ht 4 (by omega)).1
      obtain ⟨v5, c5⟩ := Option.isSome_iff_exists.1 (ht 5 (by omega)).1
      obtain ⟨v6, c6⟩ := Option.isSome_iff_exists.1 (ht 6 (by omega)).1
      have f0 := (ht 0 (by omega)).2
      have f1 := (ht 1 (by omega)).2
      have f2 := (ht 2 (by omega)).2
      have f3 := (ht 3 (by omega)).2
      have f4 := (ht 4 (by omega)).2
      have f5 := (ht 5 (by omega)).2
      have f6 := (ht 6 (by omega)).2
      rw [Nat.add_zero] at c0 f0
      have i0 : (0 : Int) ≤ (i : Int) := by omega
      have i1 : (i : Int) < (n : Int) := by omega
      have HT : Hid (∀ j, j < n → wr.there g (j * 7) 7) := hth
      have HG : Hid (w.grownBy wr (some g)) := hg
      have HZ : Hid (wr.heap.size = w.heap.size) := hz
      clear ht hth hg hz
      generalize hK : k0 + ((i * 7 : Nat) : Int) = K
      have b1 : 0 ≤ K ∧ K ≤ 10000000 := by omega
      obtain ⟨b2, b3⟩ := b1
      have EK : Hid (k0 + ((i * 7 : Nat) : Int) = K) := hK
      clear hK
      go_wp2
      go_roundw
      case rel =>
        have hK := EK.out
        refine ⟨i + 1, by omega, by go_num, by congr 1; omega, ?_, ?_, by simpa [World.setCell] using HZ.out⟩
        · intro j hj
          iterate 7 (refine there_set ?_ _ _ _)
          exact HT.out j hj
        · exact grown_over2 HG.out (grown_over2 (grown_over2 (grown_over2 (grown_over2 (grown_over2 (grown_over2 (grown_set wr ⟨g, i * 7, none⟩ _) (grown_set _ ⟨g, i * 7 + 1, none⟩ _)) (grown_set _ ⟨g, i * 7 + 2, none⟩ _)) (grown_set _ ⟨g, i * 7 + 3, none⟩ _)) (grown_set _ ⟨g, i * 7 + 4, none⟩ _)) (grown_set _ ⟨g, i * 7 + 5, none⟩ _)) (grown_set _ ⟨g, i * 7 + 6, none⟩ _))
      case measure => simp [intOf]; omega
    · obtain rfl : i = n := by omega
      go_wp2
      go_ret
      exact ⟨rfl, hg, hz⟩

theorem markPath_any (q s fr b k0 : Int) (g cap n : Nat) (w : World) (hn : n ≤ 1048576) (hk : 0 ≤ k0 ∧ k0 ≤ 1000) (hgw : g < w.heap.size) (hth : ∀ i, i < n → w.there g (i * 7) 7) :
    Calls Try.prog 24 #[.agg #[.int .i64 q, .int .i64 s, .slice (some ⟨g, 0, none⟩) n cap, .int .i64 fr, .int .i64 b], .int .i64 k0] w
      fun e w' => e = .returned (.int .i64 (k0 + ((n * 7 : Nat) : Int))) ∧ w.grownBy w' (some g) := by
  have hal := World.grownBy_alloc w (.cells #[.int .i64 q, .int .i64 s, .slice (some ⟨g, 0, none⟩) n cap, .int .i64 fr, .int .i64 b] 34) (some g)
  go_enter Try.func24, Try.ntmps24
  go_wp2_with fail
  refine (markSteps_any _ g _ n _ hn hk (fun i hi => there_below (hth i hi) ((Below.refl _ _).alloc (Nat.le_refl _) _) hgw)).mono ?_
  rintro e w1 ⟨rfl, hg1, hz1⟩
  go_wp2
  go_ret
  exact ⟨rfl, grown_over2 hal hg1⟩
end Go.Proofs.Ytgkebobmfagklaa

namespace Go.Proofs.Ytgkebobmfagklaa
open Go.RowKit

/-- The marks of one step. -/
def markStp (K : Int) : Stp := { x := K, y := K + 1, lo := K + 1 + 1, hi := K + 1 + 1 + 1, fr := K + 1 + 1 + 1 + 1, by_ := K + 1 + 1 + 1 + 1 + 1, ho := (K + 1 + 1 + 1 + 1 + 1 + 1) % 3 == 0 }
def markL (k0 : Int) (n : Nat) : List Stp := (List.range n).map fun i => markStp (k0 + ((i * 7 : Nat) : Int))
def markSTo (k0 : Int) (l : List Stp) (k : Nat) : List Stp := markL k0 k ++ l.drop k
theorem markL_length (k0 : Int) (n : Nat) : (markL k0 n).length = n := by simp [markL]
theorem markL_get (k0 : Int) {n i : Nat} (h : i < n) : (markL k0 n)[i]? = some (markStp (k0 + ((i * 7 : Nat) : Int))) := by simp [markL, h]
theorem markSTo_zero (k0 : Int) (l : List Stp) : markSTo k0 l 0 = l := by simp [markSTo, markL]
theorem markSTo_all (k0 : Int) (l : List Stp) : markSTo k0 l l.length = markL k0 l.length := by simp [markSTo]
theorem markSTo_length (k0 : Int) (l : List Stp) {k : Nat} (h : k ≤ l.length) : (markSTo k0 l k).length = l.length := by simp [markSTo, markL_length]; omega
theorem markSTo_now (k0 : Int) {l : List Stp} {k : Nat} {t : Stp} (h : l[k]? = some t) : (markSTo k0 l k)[k]? = some t := by
  unfold markSTo
  rw [List.getElem?_append_right (by rw [markL_length]; exact Nat.le_refl _), markL_length, List.getElem?_drop, Nat.sub_self, Nat.add_zero]
  exact h
theorem markSTo_succ (k0 : Int) {l : List Stp} {k : Nat} (h : k < l.length) : markSTo k0 l (k + 1) = (markSTo k0 l k).set k (markStp (k0 + ((k * 7 : Nat) : Int))) := by
  apply List.ext_getElem?
  intro i
  by_cases e : i = k
  · subst e
    rw [List.getElem?_set_self (by rw [markSTo_length k0 l (Nat.le_of_lt h)]; exact h)]
    unfold markSTo
    rw [List.getElem?_append_left (by rw [markL_length]; omega), markL_get k0 (by omega)]
  · rw [List.getElem?_set_ne (Ne.symm e)]
    unfold markSTo
    by_cases c : i < k
    · rw [List.getElem?_append_left (by rw [markL_length]; omega), List.getElem?_append_left (by rw [markL_length]; exact c), markL_get k0 (by omega), markL_get k0 c]
    · rw [List.getElem?_append_right (by rw [markL_length]; omega), List.getElem?_append_right (by rw [markL_length]; omega), markL_length, markL_length, List.getElem?_drop, List.getElem?_drop]
      congr 1
      omega

/-- One number of one step is written. -/
theorem row_put {w : World} {base g cap n : Nat} {l : List Stp} (h : w.ownsRow base 75 7 (.slice (some ⟨g, 0, none⟩) n cap) n (stepCells l)) {i j : Nat} {t t' : Stp} {u : Value} (ht : l[i]? = some t) (hj : j < 7) (he : t'.cells = t.cells.set j u) :
    (w.setCell ⟨g, i * 7 + j, none⟩ u).ownsRow base 75 7 (.slice (some ⟨g, 0, none⟩) n cap) n (stepCells (l.set i t')) := by
  have hi : i < l.length := (List.getElem?_eq_some_iff.1 ht).1
  have hn : l.length * 7 = n * 7 := by rw [← stepCells_length]; exact h.1
  rw [← stepCells_put l i j t t' u ht hj he]
  exact owns_put h (by omega) u
theorem row_put_set {w : World} {base g cap n : Nat} {l : List Stp} {i j : Nat} {t t' : Stp} {u : Value} (h : w.ownsRow base 75 7 (.slice (some ⟨g, 0, none⟩) n cap) n (stepCells (l.set i t))) (hi : i < l.length) (hj : j < 7) (he : t'.cells = t.cells.set j u) :
    (w.setCell ⟨g, i * 7 + j, none⟩ u).ownsRow base 75 7 (.slice (some ⟨g, 0, none⟩) n cap) n (stepCells (l.set i t')) := by
  have h1 := row_put h (j := j) (t := t) (t' := t') (u := u) (by rw [List.getElem?_set_self hi]) hj he
  rw [List.set_set] at h1
  exact h1
/-- All of one step is written. -/
theorem row_put7 {w : World} {base g cap n : Nat} {l : List Stp} (h : w.ownsRow base 75 7 (.slice (some ⟨g, 0, none⟩) n cap) n (stepCells l)) {i : Nat} {t : Stp} (ht : l[i]? = some t) (x y lo hi fr by_ : Int) (ho : Bool) :
    (((((((w.setCell ⟨g, i * 7, none⟩ (.int .i64 x)).setCell ⟨g, i * 7 + 1, none⟩ (.int .i64 y)).setCell ⟨g, i * 7 + 2, none⟩ (.int .i64 lo)).setCell ⟨g, i * 7 + 3, none⟩ (.int .i64 hi)).setCell ⟨g, i * 7 + 4, none⟩ (.int .i64 fr)).setCell ⟨g, i * 7 + 5, none⟩ (.int .i64 by_)).setCell ⟨g, i * 7 + 6, none⟩ (.bool ho)).ownsRow base 75 7 (.slice (some ⟨g, 0, none⟩) n cap) n (stepCells (l.set i { x := x, y := y, lo := lo, hi := hi, fr := fr, by_ := by_, ho := ho })) := by
  have hil : i < l.length := (List.getElem?_eq_some_iff.1 ht).1
  obtain ⟨a0, a1, a2, a3, a4, a5, a6⟩ := t
  have h0 := row_put h (j := 0) (t' := ⟨x, a1, a2, a3, a4, a5, a6⟩) (u := .int .i64 x) ht (by decide) rfl
  have h1 := row_put_set (t := ⟨x, a1, a2, a3, a4, a5, a6⟩) (t' := ⟨x, y, a2, a3, a4, a5, a6⟩) (j := 1) (u := .int .i64 y) h0 hil (by decide) rfl
  have h2 := row_put_set (t := ⟨x, y, a2, a3, a4, a5, a6⟩) (t' := ⟨x, y, lo, a3, a4, a5, a6⟩) (j := 2) (u := .int .i64 lo) h1 hil (by decide) rfl
  have h3 := row_put_set (t := ⟨x, y, lo, a3, a4, a5, a6⟩) (t' := ⟨x, y, lo, hi, a4, a5, a6⟩) (j := 3) (u := .int .i64 hi) h2 hil (by decide) rfl
  have h4 := row_put_set (t := ⟨x, y, lo, hi, a4, a5, a6⟩) (t' := ⟨x, y, lo, hi, fr, a5, a6⟩) (j := 4) (u := .int .i64 fr) h3 hil (by decide) rfl
  have h5 := row_put_set (t := ⟨x, y, lo, hi, fr, a5, a6⟩) (t' := ⟨x, y, lo, hi, fr, by_, a6⟩) (j := 5) (u := .int .i64 by_) h4 hil (by decide) rfl
  exact row_put_set (t := ⟨x, y, lo, hi, fr, by_, a6⟩) (t' := ⟨x, y, lo, hi, fr, by_, ho⟩) (j := 6) (u := .bool ho) h5 hil (by decide) rfl

theorem markSteps_nil (k0 : Int) (w : World) : Calls Try.prog 45 #[.slice none 0 0, .int .i64 k0] w fun e w' => e = .returned (.int .i64 k0) ∧ w' = w := by
  go_enter Try.func45, Try.ntmps45
  go_wp2
  go_loopw [1, 5] (fun v u wr => v = .int .i64 k0 ∧ u = .int .i64 0 ∧ wr = w) (fun _ _ _ => 0)
  case atStart => exact ⟨rfl, rfl, rfl⟩
  case round =>
    obtain ⟨rfl, rfl, rfl⟩ := hrel
    go_wp2
    go_ret
    exact ⟨rfl, rfl⟩

theorem heldSteps_nil (k0 : Int) (w : World) : Calls Try.prog 46 #[.slice none 0 0, .int .i64 k0] w fun e w' => e = .returned (.int .i64 k0) ∧ w' = w := by
  go_enter Try.func46, Try.ntmps46
  go_wp2
  go_loopw [1, 5] (fun v u wr => v = .int .i64 k0 ∧ u = .int .i64 0 ∧ wr = w) (fun _ _ _ => 0)
  case atStart => exact ⟨rfl, rfl, rfl⟩
  case round =>
    obtain ⟨rfl, rfl, rfl⟩ := hrel
    go_wp2
    go_ret
    exact ⟨rfl, rfl⟩

set_option maxHeartbeats 4000000 in
set_option maxRecDepth 20000 in
theorem markSteps_row (k0 : Int) (g cap base : Nat) (l : List Stp) (w : World) (hn : l.length ≤ 1048576) (hk : 0 ≤ k0 ∧ k0 ≤ 1000) (h : w.ownsRow base 75 7 (.slice (some ⟨g, 0, none⟩) l.length cap) l.length (stepCells l)) :
    Calls Try.prog 45 #[.slice (some ⟨g, 0, none⟩) l.length cap, .int .i64 k0] w
      fun e w' => e = .returned (.int .i64 (k0 + ((l.length * 7 : Nat) : Int))) ∧ w'.ownsRow base 75 7 (.slice (some ⟨g, 0, none⟩) l.length cap) l.length (stepCells (markL k0 l.length)) ∧ w.grownBy w' (some g) := by
  obtain ⟨k1, k2⟩ := hk
  go_enter Try.func45, Try.ntmps45
  go_wp2
  go_loopw [1, 5] (fun v u wr => ∃ i : Nat, i ≤ l.length ∧ u = .int .i64 i ∧ v = .int .i64 (k0 + ((i * 7 : Nat) : Int)) ∧ wr.ownsRow base 75 7 (.slice (some ⟨g, 0, none⟩) l.length cap) l.length (stepCells (markSTo k0 l i)) ∧ w.grownBy wr (some g)) (fun _ u _ => l.length - (intOf u).toNat)
  case atStart => exact ⟨0, Nat.zero_le _, rfl, by simp, by rw [markSTo_zero]; exact h, ⟨rfl, rfl, rfl, Nat.le_refl _, fun _ _ _ => rfl⟩⟩
  case round =>
    clear h
    obtain ⟨i, hi, rfl, rfl, ho, hg⟩ := hrel
    by_cases hlt : i < l.length
    · obtain ⟨t, ht⟩ : ∃ t, l[i]? = some t := ⟨_, List.getElem?_eq_getElem hlt⟩
      have hnow := markSTo_now k0 ht
      have c0 := (ho.cellAt (i * 7) (by omega)).trans (stepCells_at _ i t 0 hnow (by decide))
      have c1 := (ho.cellAt (i * 7 + 1) (by omega)).trans (stepCells_at _ i t 1 hnow (by decide))
      have c2 := (ho.cellAt (i * 7 + 2) (by omega)).trans (stepCells_at _ i t 2 hnow (by decide))
      have c3 := (ho.cellAt (i * 7 + 3) (by omega)).trans (stepCells_at _ i t 3 hnow (by decide))
      have c4 := (ho.cellAt (i * 7 + 4) (by omega)).trans (stepCells_at _ i t 4 hnow (by decide))
      have c5 := (ho.cellAt (i * 7 + 5) (by omega)).trans (stepCells_at _ i t 5 hnow (by decide))
      have c6 := (ho.cellAt (i * 7 + 6) (by omega)).trans (stepCells_at _ i t 6 hnow (by decide))
      have cf := ho.frozenAt
      have i0 : (0 : Int) ≤ (i : Int) := by omega
      have i1 : (i : Int) < (l.length : Int) := by omega
      have HO : Hid (wr.ownsRow base 75 7 (.slice (some ⟨g, 0, none⟩) l.length cap) l.length (stepCells (markSTo k0 l i))) := ho
      have HG : Hid (w.grownBy wr (some g)) := hg
      have HN : Hid ((markSTo k0 l i)[i]? = some t) := hnow
      have HT : Hid (l[i]? = some t) := ht
      clear ho hg hnow ht
      generalize hK : k0 + ((i * 7 : Nat) : Int) = K
      have b1 : 0 ≤ K ∧ K ≤ 10000000 := by omega
      obtain ⟨b2, b3⟩ := b1
      have EK : Hid (k0 + ((i * 7 : Nat) : Int) = K) := hK
      clear hK
      go_wp2
      go_roundw
      case rel =>
        have hK := EK.out
        refine ⟨i + 1, by omega, by go_num, by congr 1; omega, ?_, ?_⟩
        · have h7 := row_put7 HO.out HN.out K (K + 1) (K + 1 + 1) (K + 1 + 1 + 1) (K + 1 + 1 + 1 + 1) (K + 1 + 1 + 1 + 1 + 1) ((K + 1 + 1 + 1 + 1 + 1 + 1) % 3 == 0)
          rw [markSTo_succ k0 hlt, hK]
          exact h7
        · exact grown_over2 HG.out (grown_over2 (grown_over2 (grown_over2 (grown_over2 (grown_over2 (grown_over2 (grown_set wr ⟨g, i * 7, none⟩ _) (grown_set _ ⟨g, i * 7 + 1, none⟩ _)) (grown_set _ ⟨g, i * 7 + 2, none⟩ _)) (grown_set _ ⟨g, i * 7 + 3, none⟩ _)) (grown_set _ ⟨g, i * 7 + 4, none⟩ _)) (grown_set _ ⟨g, i * 7 + 5, none⟩ _)) (grown_set _ ⟨g, i * 7 + 6, none⟩ _))
      case measure => simp [intOf]; omega
    · obtain rfl : i = l.length := by omega
      go_wp2
      go_ret
      exact ⟨rfl, by rw [← markSTo_all]; exact ho, hg⟩

set_option maxHeartbeats 4000000 in
set_option maxRecDepth 20000 in
theorem heldSteps_row (k0 : Int) (g cap base n : Nat) (w : World) (hn : n ≤ 1048576) (hk : 0 ≤ k0 ∧ k0 ≤ 1000) (h : w.ownsRow base 75 7 (.slice (some ⟨g, 0, none⟩) n cap) n (stepCells (markL k0 n))) :
    Calls Try.prog 46 #[.slice (some ⟨g, 0, none⟩) n cap, .int .i64 k0] w fun e w' => e = .returned (.int .i64 (k0 + ((n * 7 : Nat) : Int))) ∧ w' = w := by
  obtain ⟨k1, k2⟩ := hk
  go_enter Try.func46, Try.ntmps46
  go_wp2
  go_loopw [1, 5] (fun v u wr => ∃ i : Nat, i ≤ n ∧ u = .int .i64 i ∧ v = .int .i64 (k0 + ((i * 7 : Nat) : Int)) ∧ wr = w) (fun _ u _ => n - (intOf u).toNat)
  case atStart => exact ⟨0, Nat.zero_le _, rfl, by simp, rfl⟩
  case round =>
    obtain ⟨i, hi, rfl, rfl, rfl⟩ := hrel
    by_cases hlt : i < n
    · have hnow := markL_get k0 hlt
      generalize hK : k0 + ((i * 7 : Nat) : Int) = K at hnow ⊢
      have c0 : wr.cell? ⟨g, i * 7, none⟩ = some (.int .i64 K) := (h.cellAt (i * 7) (by omega)).trans (stepCells_at _ i _ 0 hnow (by decide))
      have c1 : wr.cell? ⟨g, i * 7 + 1, none⟩ = some (.int .i64 (K + 1)) := (h.cellAt (i * 7 + 1) (by omega)).trans (stepCells_at _ i _ 1 hnow (by decide))
      have c2 : wr.cell? ⟨g, i * 7 + 2, none⟩ = some (.int .i64 (K + 1 + 1)) := (h.cellAt (i * 7 + 2) (by omega)).trans (stepCells_at _ i _ 2 hnow (by decide))
      have c3 : wr.cell? ⟨g, i * 7 + 3, none⟩ = some (.int .i64 (K + 1 + 1 + 1)) := (h.cellAt (i * 7 + 3) (by omega)).trans (stepCells_at _ i _ 3 hnow (by decide))
      have c4 : wr.cell? ⟨g, i * 7 + 4, none⟩ = some (.int .i64 (K + 1 + 1 + 1 + 1)) := (h.cellAt (i * 7 + 4) (by omega)).trans (stepCells_at _ i _ 4 hnow (by decide))
      have c5 : wr.cell? ⟨g, i * 7 + 5, none⟩ = some (.int .i64 (K + 1 + 1 + 1 + 1 + 1)) := (h.cellAt (i * 7 + 5) (by omega)).trans (stepCells_at _ i _ 5 hnow (by decide))
      have c6 : wr.cell? ⟨g, i * 7 + 6, none⟩ = some (.bool ((K + 1 + 1 + 1 + 1 + 1 + 1) % 3 == 0)) := (h.cellAt (i * 7 + 6) (by omega)).trans (stepCells_at _ i _ 6 hnow (by decide))
      have i0 : (0 : Int) ≤ (i : Int) := by omega
      have i1 : (i : Int) < (n : Int) := by omega
      have b1 : 0 ≤ K ∧ K ≤ 10000000 := by omega
      obtain ⟨b2, b3⟩ := b1
      have EK : Hid (k0 + ((i * 7 : Nat) : Int) = K) := hK
      clear hK hnow
      go_wp2
      go_roundw
      case rel =>
        have hK := EK.out
        exact ⟨i + 1, by omega, by go_num, by congr 1; omega, by simp⟩
      case measure => simp [intOf]; omega
    · obtain rfl : i = n := by omega
      go_wp2
      go_ret
      exact ⟨rfl, rfl⟩

/-- Steps that a call owns, as the walk meets them. -/
theorem steps_of {w : World} {base : Nat} {v : Value} {l : List Stp} (h : w.ownsRow base 75 7 v l.length (stepCells l)) : ∃ a b cap, v = .slice a l.length cap ∧ StepsAt w a b 0 l := by
  rcases h.2 with ⟨rfl, h0⟩ | ⟨g, cap, cur, rfl, _⟩
  · have : l = [] := List.eq_nil_of_length_eq_zero h0
    subst this
    exact ⟨none, 0, 0, rfl, ⟨fun h => absurd rfl h, fun h => absurd rfl h, fun i t hi => by simp at hi⟩⟩
  · exact ⟨some ⟨g, 0, none⟩, g, cap, rfl, steps_owned h⟩

theorem markPath_own (q s fr b k0 : Int) (v : Value) (base : Nat) (l : List Stp) (w : World) (hn : l.length ≤ 1048576) (hk : 0 ≤ k0 ∧ k0 ≤ 1000) (h : w.ownsRow base 75 7 v l.length (stepCells l)) :
    Calls Try.prog 24 #[.agg #[.int .i64 q, .int .i64 s, v, .int .i64 fr, .int .i64 b], .int .i64 k0] w
      fun e w' => e = .returned (.int .i64 (k0 + ((l.length * 7 : Nat) : Int))) ∧ w'.ownsRow base 75 7 v l.length (stepCells (markL k0 l.length)) ∧ w.grownBy w' v.ownBlock := by
  have hal := World.grownBy_alloc w (.cells #[.int .i64 q, .int .i64 s, v, .int .i64 fr, .int .i64 b] 34) v.ownBlock
  have ho := owns_below h ((Below.refl _ _).alloc (Nat.le_refl _) (.cells #[.int .i64 q, .int .i64 s, v, .int .i64 fr, .int .i64 b] 34))
  go_enter Try.func24, Try.ntmps24
  rcases h.2 with ⟨rfl, h0⟩ | ⟨g, cap, cur, rfl, _⟩
  · have : l = [] := List.eq_nil_of_length_eq_zero h0
    subst this
    go_wp2_with fail
    refine (markSteps_nil _ _).mono ?_
    rintro e w1 ⟨rfl, rfl⟩
    go_wp2
    go_ret
    exact ⟨by simp, World.ownsRow_nil _ _ _ _, hal⟩
  · go_wp2_with fail
    refine (markSteps_row _ g cap base l _ hn hk ho).mono ?_
    rintro e w1 ⟨rfl, ho1, hg1⟩
    go_wp2
    go_ret
    exact ⟨rfl, ho1, grown_over2 hal hg1⟩

theorem heldPath_own (q s fr b k0 : Int) (v : Value) (base n : Nat) (w : World) (hn : n ≤ 1048576) (hk : 0 ≤ k0 ∧ k0 ≤ 1000) (h : w.ownsRow base 75 7 v n (stepCells (markL k0 n))) :
    Calls Try.prog 26 #[.agg #[.int .i64 q, .int .i64 s, v, .int .i64 fr, .int .i64 b], .int .i64 k0] w
      fun e w' => e = .returned (.int .i64 (k0 + ((n * 7 : Nat) : Int))) ∧ Below w.heap.size w w' := by
  have ho := owns_below h ((Below.refl _ _).alloc (Nat.le_refl _) (.cells #[.int .i64 q, .int .i64 s, v, .int .i64 fr, .int .i64 b] 34))
  have hneg : ¬ (k0 + ((n * 7 : Nat) : Int) < 0) := by omega
  go_enter Try.func26, Try.ntmps26
  rcases h.2 with ⟨rfl, rfl⟩ | ⟨g, cap, cur, rfl, _⟩
  · have hk0 : ¬ (k0 < 0) := by omega
    go_wp2_with fail
    refine (heldSteps_nil _ _).mono ?_
    rintro e w1 ⟨rfl, rfl⟩
    go_wp2
    go_ret
    exact ⟨by simp, (Below.refl _ _).alloc (Nat.le_refl _) _⟩
  · generalize hM : k0 + ((n * 7 : Nat) : Int) = M at hneg ⊢
    go_wp2_with fail
    refine (heldSteps_row _ g cap base n _ hn hk ho).mono ?_
    rw [hM]
    rintro e w1 ⟨rfl, rfl⟩
    go_wp2
    go_ret
    exact ⟨rfl, (Below.refl _ _).alloc (Nat.le_refl _) _⟩
end Go.Proofs.Ytgkebobmfagklaa

namespace Go.Proofs.Ytgkebobmfagklaa
open Go.RowKit

theorem there_ownedL {w : World} {base n : Nat} {v : Value} {xs : List Value} (h : w.ownsRow base 3 1 v n xs) : ∃ a g cap, v = .slice a n cap ∧ (n ≠ 0 → a = some ⟨g, 0, none⟩ ∧ w.there g 0 n) ∧ (n ≠ 0 → v.ownBlock = some g) := by
  rcases h.2 with ⟨rfl, rfl⟩ | ⟨g, cap, cur, rfl, _, hh, h4, _, hs, _⟩
  · exact ⟨none, 0, 0, rfl, fun h => absurd rfl h, fun h => absurd rfl h⟩
  · exact ⟨some ⟨g, 0, none⟩, g, cap, rfl, fun _ => ⟨rfl, there_of_block hh _ _ (by omega)⟩, fun _ => rfl⟩
theorem there_grownL {w w' : World} {g h o n : Nat} (ht : w.there g o n) (hg : w.grownBy w' (some h)) (hlt : g < w.heap.size) (hne : g ≠ h) : w'.there g o n := fun j hj => by
  have hb := hg.block g hlt (fun e => hne (by cases e; rfl))
  exact ⟨by rw [World.cell?_of_block (a := ⟨g, o + j, none⟩) hb]; exact (ht j hj).1, by rw [World.frozen?_of_block (a := ⟨g, o + j, none⟩) hb]; exact (ht j hj).2⟩

set_option maxHeartbeats 1000000 in
theorem markCraft_any (nm : ByteArray) (n no q s fr b k0 : Int) (g cap m : Nat) (h hcap z : Nat) (w : World) (hm : m ≤ 1048576) (hz : z ≤ 1048576) (hk : 0 ≤ k0 ∧ k0 ≤ 1000) (hgw : g < w.heap.size) (hhw : h < w.heap.size) (hgh : g ≠ h) (hth : ∀ i, i < m → w.there g (i * 7) 7) (hti : w.there h 0 z) :
    Calls Try.prog 9 #[.agg #[.string nm, .int .i64 n, .int .i64 no, .int .i64 q, .int .i64 s, .slice (some ⟨g, 0, none⟩) m cap, .int .i64 fr, .int .i64 b, .slice (some ⟨h, 0, none⟩) z hcap], .int .i64 k0] w
      fun e w' => e = .returned (.int .i64 (k0 + ((m * 7 : Nat) : Int) + (z : Int))) ∧ ∃ w1, w.grownBy w1 (some g) ∧ w1.grownBy w' (some h) := by
  have hal := World.grownBy_alloc w (.cells #[.string nm, .int .i64 n, .int .i64 no, .int .i64 q, .int .i64 s, .slice (some ⟨g, 0, none⟩) m cap, .int .i64 fr, .int .i64 b, .slice (some ⟨h, 0, none⟩) z hcap] 36) (some g)
  have X0 := heap_alloc_new w (.cells #[.string nm, .int .i64 n, .int .i64 no, .int .i64 q, .int .i64 s, .slice (some ⟨g, 0, none⟩) m cap, .int .i64 fr, .int .i64 b, .slice (some ⟨h, 0, none⟩) z hcap] 36)
  have K0 := bel1 (w := w) (.cells #[.string nm, .int .i64 n, .int .i64 no, .int .i64 q, .int .i64 s, .slice (some ⟨g, 0, none⟩) m cap, .int .i64 fr, .int .i64 b, .slice (some ⟨h, 0, none⟩) z hcap] 36)
  go_enter Try.func9, Try.ntmps9
  go_wp2_with fail
  refine (markPath_any q s fr b k0 g cap m _ hm hk (Nat.lt_of_lt_of_le hgw K0.size) (fun i hi => there_below (hth i hi) K0 hgw)).mono ?_
  rintro e w1 ⟨rfl, hg1⟩
  have X1 := (hg1.block _ (lt_of_block X0) (fun e => by cases e; omega)).trans X0
  have T1 : w1.there h 0 z := there_grownL (there_below hti K0 hhw) hg1 (Nat.lt_of_lt_of_le hhw K0.size) (Ne.symm hgh)
  obtain ⟨⟨x0, x1, x2, x3, x4, x5, x6, x7, x8⟩, xf⟩ := blk9 X1
  obtain ⟨M, hM⟩ : ∃ M : Int, k0 + ((m * 7 : Nat) : Int) = M := ⟨_, rfl⟩
  have HM : Hid (k0 + ((m * 7 : Nat) : Int) = M) := hM
  have hMk : 0 ≤ M ∧ M ≤ 100000000 := by omega
  rw [hM]
  clear hM
  go_wp2_with fail
  refine (markInts_any (some ⟨h, 0, none⟩) h z hcap M w1 hz hMk (fun _ => ⟨rfl, T1⟩)).mono ?_
  rintro e w2 ⟨rfl, hg2, _, _, _⟩
  go_wp2
  go_ret
  exact ⟨by rw [HM.out]; rfl, w1, grown_over2 hal hg1, hg2⟩

/-- An answer's lists, in memory of its own. -/
structure CfOwn (W : World) (base : Nat) (v u : Value) (l : List Stp) (zs : List Int) : Prop where
  st : W.ownsRow base 75 7 v l.length (stepCells l)
  fl : W.ownsRow base 3 1 u zs.length (intCells zs)
  ap : ∀ k k', v.ownBlock = some k → u.ownBlock = some k' → k ≠ k'
theorem CfOwn.below {W W' : World} {base : Nat} {v u : Value} {l : List Stp} {zs : List Int} (h : CfOwn W base v u l zs) (hb : Below W.heap.size W W') : CfOwn W' base v u l zs := ⟨owns_below h.st hb, owns_below h.fl hb, h.ap⟩
theorem kept_row {W W' : World} {base e size n : Nat} {v : Value} {xs : List Value} {row : Option Nat} (h : W.ownsRow base e size v n xs) (hg : W.grownBy W' row) (hr : ∀ k, v.ownBlock = some k → row ≠ some k) : W'.ownsRow base e size v n xs :=
  h.kept hg (by
    cases h3 : v.ownBlock with
    | none => exact Or.inl rfl
    | some k => exact Or.inr (fun e => hr k h3 e.symm))
theorem CfOwn.grown {W W' : World} {base : Nat} {v u : Value} {l : List Stp} {zs : List Int} {row : Option Nat} (h : CfOwn W base v u l zs) (hg : W.grownBy W' row) (hv : ∀ k, v.ownBlock = some k → row ≠ some k) (hu : ∀ k, u.ownBlock = some k → row ≠ some k) : CfOwn W' base v u l zs := ⟨kept_row h.st hg hv, kept_row h.fl hg hu, h.ap⟩
theorem CfIn.grown {W W' : World} {B : Nat} {t : Cf} {row : Option Nat} (h : CfIn W B t) (hg : W.grownBy W' row) (hb : row ≠ some B) : CfIn W' B t := by
  have e : ∀ j, W'.cell? ⟨B, j, none⟩ = W.cell? ⟨B, j, none⟩ := fun j => World.cell?_of_block (a := ⟨B, j, none⟩) (hg.block B h.lt (fun e => hb e.symm))
  exact ⟨Nat.lt_of_lt_of_le h.lt hg.size, (e 0).trans h.c0, (e 1).trans h.c1, (e 2).trans h.c2, (e 3).trans h.c3, (e 4).trans h.c4, (e 5).trans h.c5, (e 6).trans h.c6, (e 7).trans h.c7, (e 8).trans h.c8⟩

theorem eqOwn_same (nm : ByteArray) (n no q s fr b : Int) (v u v' u' : Value) (base base' : Nat) (l : List Stp) (zs : List Int) (w : World) (hl : l.length ≤ 1048576) (hz : zs.length ≤ 1048576) (h : CfOwn w base v u l zs) (h' : CfOwn w base' v' u' l zs) :
    Calls Try.prog 8 #[.agg #[.string nm, .int .i64 n, .int .i64 no, .int .i64 q, .int .i64 s, v, .int .i64 fr, .int .i64 b, u], .agg #[.string nm, .int .i64 n, .int .i64 no, .int .i64 q, .int .i64 s, v', .int .i64 fr, .int .i64 b, u']] w fun e w' => e = .returned (.bool true) ∧ Below w.heap.size w w' := by
  obtain ⟨a, g, c, rfl, hS⟩ := steps_of h.st
  obtain ⟨d, x, e, rfl, hI, _⟩ := ints_owned h.fl
  obtain ⟨a', g', c', rfl, hS'⟩ := steps_of h'.st
  obtain ⟨d', x', e', rfl, hI', _⟩ := ints_owned h'.fl
  exact eqCraft_same ⟨nm, n, no, ⟨q, s, fr, b, a, g, 0, c, l⟩, d, x, 0, e, zs⟩ ⟨nm, n, no, ⟨q, s, fr, b, a', g', 0, c', l⟩, d', x', 0, e', zs⟩ w rfl rfl rfl rfl rfl rfl rfl rfl rfl hl hz ⟨hS, hI⟩ ⟨hS', hI'⟩

/-- An answer's lists behind the marks. -/
structure CfMk (W : World) (base : Nat) (v u : Value) (nl nz : Nat) : Prop where
  st : W.ownsRow base 75 7 v nl (stepCells (markL 1 nl))
  fl : ∃ a g cap, u = .slice a nz cap ∧ (nz ≠ 0 → a = some ⟨g, 0, none⟩ ∧ g < W.heap.size) ∧ ∀ i, i < nz → W.cell? ⟨g, i, none⟩ = some (.int .i64 (1 + ((nl * 7 : Nat) : Int) + (i : Int)))
theorem CfMk.below {W W' : World} {base nl nz : Nat} {v u : Value} (h : CfMk W base v u nl nz) (hb : Below W.heap.size W W') : CfMk W' base v u nl nz := by
  obtain ⟨a, g, cap, h1, h2, h3⟩ := h.fl
  exact ⟨owns_below h.st hb, a, g, cap, h1, fun hn => ⟨(h2 hn).1, Nat.lt_of_lt_of_le (h2 hn).2 hb.size⟩, fun i hi => (hb.cell (p := ⟨g, i, none⟩) (h2 (by omega)).2).trans (h3 i hi)⟩

set_option maxHeartbeats 1000000 in
theorem markCraft_own (nm : ByteArray) (n no q s fr b : Int) (v u : Value) (base : Nat) (l : List Stp) (zs : List Int) (w : World) (hl : l.length ≤ 1048576) (hz : zs.length ≤ 1048576) (h : CfOwn w base v u l zs) :
    Calls Try.prog 9 #[.agg #[.string nm, .int .i64 n, .int .i64 no, .int .i64 q, .int .i64 s, v, .int .i64 fr, .int .i64 b, u], .int .i64 1] w
      fun e w' => e = .returned (.int .i64 (1 + ((l.length * 7 : Nat) : Int) + (zs.length : Int))) ∧ CfMk w' base v u l.length zs.length ∧ ∃ w1, w.grownBy w1 v.ownBlock ∧ w1.grownBy w' u.ownBlock := by
  have hal := World.grownBy_alloc w (.cells #[.string nm, .int .i64 n, .int .i64 no, .int .i64 q, .int .i64 s, v, .int .i64 fr, .int .i64 b, u] 36) v.ownBlock
  have X0 := heap_alloc_new w (.cells #[.string nm, .int .i64 n, .int .i64 no, .int .i64 q, .int .i64 s, v, .int .i64 fr, .int .i64 b, u] 36)
  have K0 := bel1 (w := w) (.cells #[.string nm, .int .i64 n, .int .i64 no, .int .i64 q, .int .i64 s, v, .int .i64 fr, .int .i64 b, u] 36)
  have h0 := h.below K0
  have hlt := owns_lt h.st
  obtain ⟨a1, c1, rfl⟩ := owns_sliceL h.st
  obtain ⟨a2, g2, c2, rfl, ht2, ho2⟩ := there_ownedL h.fl
  go_enter Try.func9, Try.ntmps9
  go_wp2_with fail
  refine (markPath_own q s fr b 1 (.slice a1 l.length c1) base l _ hl (by omega) h0.st).mono ?_
  rintro e w1 ⟨rfl, ho1, hg1⟩
  have X1 := (hg1.block _ (lt_of_block X0) (fun e => by have := hlt _ e.symm; omega)).trans X0
  have F1 := kept_row h0.fl hg1 (fun k e e' => h.ap k k e' e rfl)
  have G1 := grown_over2 hal hg1
  obtain ⟨a3, g3, c3, hv3, ht3, ho3⟩ := there_ownedL F1
  cases hv3
  obtain ⟨⟨x0, x1, x2, x3, x4, x5, x6, x7, x8⟩, xf⟩ := blk9 X1
  obtain ⟨M, hM⟩ : ∃ M : Int, 1 + ((l.length * 7 : Nat) : Int) = M := ⟨_, rfl⟩
  have HM : Hid (1 + ((l.length * 7 : Nat) : Int) = M) := hM
  have hMk : 0 ≤ M ∧ M ≤ 100000000 := by omega
  rw [hM]
  clear hM X0 X1 h0 hal K0
  go_wp2_with fail
  refine (markInts_any a2 g3 zs.length c2 M w1 hz hMk ht3).mono ?_
  rintro e w2 ⟨rfl, hg2', hz2, hc2, hn2⟩
  have hrow : w1.grownBy w2 (Value.ownBlock (.slice a2 zs.length c2)) := by
    by_cases hz0 : zs.length = 0
    · rw [hn2 hz0]
      exact ⟨rfl, rfl, rfl, Nat.le_refl _, fun _ _ _ => rfl⟩
    · rw [ho3 hz0]
      exact hg2'
  go_wp2
  go_ret
  refine ⟨by rw [HM.out]; rfl, ⟨kept_row ho1 hrow (fun k e e' => h.ap k k e e' rfl), a2, g3, c2, rfl, fun hn => ⟨(ht3 hn).1, ?_⟩, fun i hi => by rw [HM.out]; exact hc2 i hi⟩, w1, G1, hrow⟩
  have := owns_lt F1 g3 (ho3 hn)
  omega

set_option maxHeartbeats 1000000 in
theorem heldCraft_own (nm : ByteArray) (n no q s fr b : Int) (v u : Value) (base nl nz : Nat) (w : World) (hl : nl ≤ 1048576) (hz : nz ≤ 1048576) (h : CfMk w base v u nl nz) (R : Int) (hR : 1 + ((nl * 7 : Nat) : Int) + (nz : Int) = R) :
    Calls Try.prog 10 #[.agg #[.string nm, .int .i64 n, .int .i64 no, .int .i64 q, .int .i64 s, v, .int .i64 fr, .int .i64 b, u], .int .i64 1] w fun e w' => e = .returned (.int .i64 R) ∧ Below w.heap.size w w' := by
  have X0 := heap_alloc_new w (.cells #[.string nm, .int .i64 n, .int .i64 no, .int .i64 q, .int .i64 s, v, .int .i64 fr, .int .i64 b, u] 36)
  have K0 := bel1 (w := w) (.cells #[.string nm, .int .i64 n, .int .i64 no, .int .i64 q, .int .i64 s, v, .int .i64 fr, .int .i64 b, u] 36)
  have h0 := h.below K0
  obtain ⟨a1, c1, rfl⟩ := owns_sliceL h.st
  obtain ⟨a2, g2, c2, rfl, ha2, hc2⟩ := h.fl
  obtain ⟨M, hM⟩ : ∃ M : Int, 1 + ((nl * 7 : Nat) : Int) = M := ⟨_, rfl⟩
  have HM : Hid (1 + ((nl * 7 : Nat) : Int) = M) := hM
  have hM0 : ¬ M < 0 := by omega
  have hMk : 0 ≤ M ∧ M ≤ 100000000 := by omega
  have hR0 : ¬ R < 0 := by omega
  have HR : Hid (M + (nz : Int) = R) := by show _ = _; omega
  go_enter Try.func10, Try.ntmps10
  clear hM hR
  go_wp2_with fail
  refine (heldPath_own q s fr b 1 (.slice a1 nl c1) base nl _ hl (by omega) h0.st).mono ?_
  rw [HM.out]
  rintro e w1 ⟨rfl, hb1⟩
  have X1 := (hb1.block _ (lt_of_block X0)).trans X0
  have B1 := K0.trans (hb1.mono K0.size)
  obtain ⟨⟨x0, x1, x2, x3, x4, x5, x6, x7, x8⟩, xf⟩ := blk9 X1
  have hc1 : ∀ i, i < nz → w1.cell? ⟨g2, i, none⟩ = some (.int .i64 (M + (i : Int))) := fun i hi => by
    rw [← HM.out]
    exact (B1.cell (p := ⟨g2, i, none⟩) (ha2 (by omega)).2).trans (hc2 i hi)
  clear X0 X1 h0 hb1 hc2
  go_wp2_with fail
  refine (heldInts_any a2 g2 nz c2 M w1 hz hMk (fun hn => (ha2 hn).1) hc1).mono ?_
  rw [HR.out]
  rintro e w2 ⟨rfl, rfl⟩
  go_wp2
  go_ret
  exact ⟨rfl, B1⟩
end Go.Proofs.Ytgkebobmfagklaa

namespace Go.Proofs.Ytgkebobmfagklaa
open Go.RowKit

theorem there_putL {w : World} {b o n : Nat} (h : w.there b o n) {p : Addr} (hp : p.block ≠ b) (v : Value) : (w.setCell p v).there b o n := fun j hj => by
  have hb := heap_setCell_other w p b v (Ne.symm hp)
  exact ⟨by rw [World.cell?_of_block (a := ⟨b, o + j, none⟩) hb]; exact (h j hj).1, by rw [World.frozen?_of_block (a := ⟨b, o + j, none⟩) hb]; exact (h j hj).2⟩
set_option maxHeartbeats 1000000 in
theorem toCraft_more (t : Cf) (w : World) (hl : t.p.l.length ≤ 1048576) (hz : t.zs.length ≤ 1048576) (h : CfAt w t) :
    Calls Try.prog 6 #[t.val] w fun e w' => ∃ g h, e = .returned (t.put g h).val ∧ w.heap.size ≤ g ∧ g < h ∧ h < w'.heap.size ∧ CfAt w' (t.put g h) ∧ Below w.heap.size w w' ∧ (∀ i, i < t.p.l.length → w'.there g (i * 7) 7) ∧ w'.there h 0 t.zs.length := by
  have S0 := h.below (bel3 (.cells #[.string t.nm, .int .i64 t.n, .int .i64 t.no, .int .i64 t.p.q, .int .i64 t.p.s, .slice t.p.a t.p.l.length t.p.cap, .int .i64 t.p.fr, .int .i64 t.p.b, .slice t.fa t.zs.length t.fcap] 29) (.cells #[.string ⟨#[]⟩, .int .i64 0, .int .i64 0, .int .i64 0, .int .i64 0, .slice none 0 0, .int .i64 0, .int .i64 0, .slice none 0 0] 36) (.cells #[.string t.nm, .int .i64 t.n, .int .i64 t.no, .int .i64 0, .int .i64 0, .slice none 0 0, .int .i64 0, .int .i64 0, .slice none 0 0] 36))
  go_enter Try.func6, Try.ntmps6
  go_wp2_with fail
  refine (toPath_more _ _ _ _ _ t.p.b0 t.p.o _ _ _ hl S0.st).mono ?_
  rintro e w1 ⟨g, rfl, hg, hg', hs1, hb1, hth1⟩
  obtain ⟨hc1, hf1⟩ := old_cells hb1
  have r0 : ∀ j, w1.cell? ⟨w.heap.size, j, none⟩ = _ := fun j => hc1 w.heap.size j (by simp; omega)
  have r1 : ∀ j, w1.cell? ⟨w.heap.size + 1, j, none⟩ = _ := fun j => hc1 (w.heap.size + 1) j (by simp)
  have r2 : ∀ j, w1.cell? ⟨w.heap.size + 1 + 1, j, none⟩ = _ := fun j => hc1 (w.heap.size + 1 + 1) j (by simp)
  have f1 : ∀ j, w1.frozen? ⟨w.heap.size + 1, j, none⟩ = _ := fun j => hf1 (w.heap.size + 1) j (by simp)
  have f2 : ∀ j, w1.frozen? ⟨w.heap.size + 1 + 1, j, none⟩ = _ := fun j => hf1 (w.heap.size + 1 + 1) j (by simp)
  have B1 : Below w.heap.size w w1 := (bel3 _ _ _).trans (hb1.mono (by simp; omega))
  simp at hg
  clear hb1 hc1 hf1 S0
  go_wp2_with fail
  have B2 : Below w.heap.size w (((((w1.setCell ⟨w.heap.size + 1 + 1, 3, none⟩ (.int .i64 t.p.q)).setCell ⟨w.heap.size + 1 + 1, 4, none⟩ (.int .i64 t.p.s)).setCell ⟨w.heap.size + 1 + 1, 5, none⟩ (.slice (some ⟨g, 0, none⟩) t.p.l.length t.p.l.length)).setCell ⟨w.heap.size + 1 + 1, 6, none⟩ (.int .i64 t.p.fr)).setCell ⟨w.heap.size + 1 + 1, 7, none⟩ (.int .i64 t.p.b)) := by
    iterate 5 (refine Below.setCell ?_ (by simp <;> omega) _)
    exact B1
  have S2 : StepsAt (((((w1.setCell ⟨w.heap.size + 1 + 1, 3, none⟩ (.int .i64 t.p.q)).setCell ⟨w.heap.size + 1 + 1, 4, none⟩ (.int .i64 t.p.s)).setCell ⟨w.heap.size + 1 + 1, 5, none⟩ (.slice (some ⟨g, 0, none⟩) t.p.l.length t.p.l.length)).setCell ⟨w.heap.size + 1 + 1, 6, none⟩ (.int .i64 t.p.fr)).setCell ⟨w.heap.size + 1 + 1, 7, none⟩ (.int .i64 t.p.b)) (some ⟨g, 0, none⟩) g 0 t.p.l := by
    iterate 5 (refine StepsAt.set ?_ (by simp <;> omega) _)
    exact hs1
  have z2 : (((((w1.setCell ⟨w.heap.size + 1 + 1, 3, none⟩ (.int .i64 t.p.q)).setCell ⟨w.heap.size + 1 + 1, 4, none⟩ (.int .i64 t.p.s)).setCell ⟨w.heap.size + 1 + 1, 5, none⟩ (.slice (some ⟨g, 0, none⟩) t.p.l.length t.p.l.length)).setCell ⟨w.heap.size + 1 + 1, 6, none⟩ (.int .i64 t.p.fr)).setCell ⟨w.heap.size + 1 + 1, 7, none⟩ (.int .i64 t.p.b)).heap.size = w1.heap.size := by simp [World.setCell]
  have th2 : ∀ i, i < t.p.l.length → (((((w1.setCell ⟨w.heap.size + 1 + 1, 3, none⟩ (.int .i64 t.p.q)).setCell ⟨w.heap.size + 1 + 1, 4, none⟩ (.int .i64 t.p.s)).setCell ⟨w.heap.size + 1 + 1, 5, none⟩ (.slice (some ⟨g, 0, none⟩) t.p.l.length t.p.l.length)).setCell ⟨w.heap.size + 1 + 1, 6, none⟩ (.int .i64 t.p.fr)).setCell ⟨w.heap.size + 1 + 1, 7, none⟩ (.int .i64 t.p.b)).there g (i * 7) 7 := fun i hi => by
    iterate 5 (refine there_putL ?_ (by simp <;> omega) _)
    exact hth1 i hi
  refine (toInts_more _ t.fb t.fo _ _ _ hz (h.fl.below B2 h.fl.lt)).mono ?_
  rintro e w2 ⟨x, rfl, hx, hx', hs2, hb2, hti2⟩
  have S3 := S2.below hb2 (fun _ => by rw [z2]; exact hg')
  have th3 : ∀ i, i < t.p.l.length → w2.there g (i * 7) 7 := fun i hi => there_below (th2 i hi) hb2 (by rw [z2]; exact hg')
  obtain ⟨hc2, hf2⟩ := old_cells hb2
  rw [z2] at hx
  have q1 : ∀ j, w2.cell? ⟨w.heap.size + 1, j, none⟩ = _ := fun j => hc2 (w.heap.size + 1) j (by rw [z2]; omega)
  have q2 : ∀ j, w2.cell? ⟨w.heap.size + 1 + 1, j, none⟩ = _ := fun j => hc2 (w.heap.size + 1 + 1) j (by rw [z2]; omega)
  have e1 : ∀ j, w2.frozen? ⟨w.heap.size + 1, j, none⟩ = _ := fun j => hf2 (w.heap.size + 1) j (by rw [z2]; omega)
  have e2 : ∀ j, w2.frozen? ⟨w.heap.size + 1 + 1, j, none⟩ = _ := fun j => hf2 (w.heap.size + 1 + 1) j (by rw [z2]; omega)
  have B3 := B2.trans (hb2.mono (by rw [z2]; exact B1.size))
  clear hb2 hc2 hf2 S2 B2 z2 th2
  go_wp2
  refine bodyPost_ret (v := (t.put g x).val) (by simp [results, Try.results6, go_sem, *]) rfl ⟨g, x, rfl, by omega, by omega, by simpa [World.setCell] using hx', ⟨?_, ?_⟩, ?_, ?_, ?_⟩
  · repeat (refine StepsAt.set ?_ (by simp <;> omega) _)
    exact S3
  · have hI : ∀ {W : World} (k j : Nat) (u : Value), k ≠ x → IntsAt W (some ⟨x, 0, none⟩) x 0 t.zs → IntsAt (W.setCell ⟨k, j, none⟩ u) (some ⟨x, 0, none⟩) x 0 t.zs := fun {W} k j u hk hi => ⟨hi.here, fun hn => by simpa [World.setCell] using hi.lt hn, fun i z hz => by rw [World.cell?_setCell_other _ _ _ _ (by intro e; have := congrArg Addr.block e; simp at this; omega)]; exact hi.cell i z hz⟩
    repeat (refine hI _ _ _ (by omega) ?_)
    exact hs2
  · repeat (refine Below.setCell ?_ (by simp <;> omega) _)
    exact B3
  · intro i hi
    repeat (refine there_putL ?_ (by simp <;> omega) _)
    exact th3 i hi
  · repeat (refine there_putL ?_ (by simp <;> omega) _)
    exact hti2
end Go.Proofs.Ytgkebobmfagklaa
