/- Joined texts: PbMeetAny, LkOthers, LkWd, LkData, LkCan, SharedData, LkNone, LkHeldOk, LkSeq, PbSkyD0, LkBookD, LkNearS, LkHoldI, LkAscI, LkBookC, LkBookT, LkText, SpanMark20, PathKit, RowPut0, PathMark0. -/
import Derived.WalkKit
import Derived.WalkSpells
import Derived.Laws.StructEq
import Derived.RangeFuncNested
import Derived.RangeFuncBound
import Derived.RangeFuncCalls
import Derived.RangeFuncLeaves
import Derived.Shelf.Abstract
import Derived.Shelf.RegionOpen
import Derived.OwnWalkIn
import Derived.TacticsInMore
import Derived.LoopNIn
import Derived.LoopIn
import Derived.Stop.RegionWithIn
import Derived.Laws.Cover1
import Derived.Deep.RegionHeld3
import Derived.Laws.IdiomStrings
import Derived.Test.YtfmdejilhbankaaGreatRows
import Derived.Test.YtfmdejilhbankaaGreatPbMeetI2
import Derived.Test.YtfmdejilhbankaaGreatJ05
import Derived.Test.YtfmdejilhbankaaGreatJ06
import Derived.Test.YtfmdejilhbankaaGreatPbBel
import Derived.Test.YtfmdejilhbankaaGreatJ04
import Derived.Test.YtfmdejilhbankaaGreatSpanMath
import Derived.Test.YtfmdejilhbankaaGreatPbName
import Derived.Test.YtfmdejilhbankaaGreatPbName2
import Derived.Test.YtfmdejilhbankaaGreatJ02
import Derived.Test.YtfmdejilhbankaaGreatSpec
import Derived.Test.YtfmdejilhbankaaGreatData
import Derived.Test.YtfmdejilhbankaaGreatPbTubeS
import Derived.Test.YtfmdejilhbankaaGreatCls
import Derived.Test.YtfmdejilhbankaaGreatSpanBack
import Derived.Test.YtfmdejilhbankaaGreatBoxP
namespace Go.Proofs.YtfmdejilhbankaaGreat
open Go.RowKit Go.Shelf

theorem meetI_any (t u : Tb) (w : World) (hl : t.l.length ≤ 1048576) (hm : u.l.length ≤ 1048576) (ht : TubeAt w t) (hu : TubeAt w u) :
    Calls Tryz.prog 82 #[t.val, u.val] w fun e w' => e = .returned (.tuple #[.agg (clashC t.nm u.nm (meetTB t u)), .bool (meetTB t u).isSome]) ∧ Below w.heap.size w w' := by
  cases h1 : tubeB t
  · exact meetI_no t u w hl hm ht hu (.inl h1)
  cases h2 : tubeB u
  · exact meetI_no t u w hl hm ht hu (.inr ⟨h1, h2⟩)
  · exact meetI_yes t u w hl hm ht hu h1 h2
end Go.Proofs.YtfmdejilhbankaaGreat

namespace Go.Proofs.YtfmdejilhbankaaGreat
open Go.RowKit

/-- One of these has another name, and comes too near. -/
def othersB (t : Tb) (nm : ByteArray) (ts : List Tb) : Bool := ts.any fun o => !decide (o.nm = nm) && (meetTB t o).isSome
theorem others_not {t : Tb} {nm : ByteArray} {ts : List Tb} {k : Nat} {o : Tb} (h : othersB t nm (ts.take k) = false) (ho : ts[k]? = some o) (hn : (!decide (o.nm = nm) && (meetTB t o).isSome) = false) : othersB t nm (ts.take (k + 1)) = false := by
  unfold othersB at h ⊢
  rw [List.take_add_one, ho, List.any_append, h]
  simpa using hn
theorem others_hit {t : Tb} {nm : ByteArray} {ts : List Tb} {k : Nat} {o : Tb} (ho : ts[k]? = some o) (hn : (!decide (o.nm = nm) && (meetTB t o).isSome) = true) : othersB t nm ts = true :=
  List.any_eq_true.2 ⟨o, List.mem_of_getElem? ho, hn⟩

set_option maxHeartbeats 4000000 in
set_option maxRecDepth 20000 in
theorem others_any (t : Tb) (nm : ByteArray) (a : Option Addr) (b o cap : Nat) (ts : List Tb) (w : World) (hl : ts.length ≤ 1048576) (htl : t.l.length ≤ 1048576) (hsm : ∀ u ∈ ts, u.l.length ≤ 1048576) (ht : TubeAt w t) (hs : TubesAt w a b o ts) :
    Calls Tryz.prog 59 #[t.val, .string nm, .slice a ts.length cap] w fun e w' => e = .returned (.bool (othersB t nm ts)) ∧ Below w.heap.size w w' := by
  have B0 := bel1 (w := w) (.cells #[.string t.nm, .slice t.a t.l.length t.cap] 96)
  have X0 := heap_alloc_new w (.cells #[.string t.nm, .slice t.a t.l.length t.cap] 96)
  go_enter Tryz.func59, Tryz.ntmps59
  go_wp2
  obtain ⟨W0, hW0⟩ : ∃ W0, w.alloc (.cells #[.string t.nm, .slice t.a t.l.length t.cap] 96) = W0 := ⟨_, rfl⟩
  rw [hW0] at B0 X0 ⊢
  clear hW0
  go_loopw [13] (fun v wr => ∃ k : Nat, k ≤ ts.length ∧ v = .int .i64 k ∧ Below W0.heap.size W0 wr ∧ othersB t nm (ts.take k) = false) (fun v _ => ts.length - (intOf v).toNat)
  case atStart => exact ⟨0, Nat.zero_le _, rfl, Below.refl _ _, rfl⟩
  case round =>
    obtain ⟨k, hk, rfl, hb, hf⟩ := hrel
    have HF : Hid (othersB t nm (ts.take k) = false) := hf
    have BW := B0.trans (hb.mono B0.size)
    clear hf
    by_cases hlt : k < ts.length
    · obtain ⟨u, huk⟩ : ∃ u, ts[k]? = some u := ⟨ts[k], List.getElem?_eq_getElem hlt⟩
      have hne : ts ≠ [] := by intro e; subst e; simp at hlt
      obtain rfl := hs.here hne
      have hm := List.mem_of_getElem? huk
      obtain ⟨c0, c1⟩ := (hs.below BW).two huk
      have k0 : (0 : Int) ≤ (k : Int) := by omega
      have k1 : (k : Int) < (ts.length : Int) := by omega
      have HU : Hid (ts[k]? = some u) := huk
      have X1 := (hb.block _ (lt_of_block X0)).trans X0
      have B1 := bel1 (w := wr) (.cells #[.string u.nm, .slice u.a u.l.length u.cap] 96)
      have X2 := (B1.block _ (lt_of_block X1)).trans X1
      obtain ⟨x0, x1, xf⟩ := blk2 X2
      have hT : TubeAt (wr.alloc (.cells #[.string u.nm, .slice u.a u.l.length u.cap] 96)) t := (ht.below BW).below B1
      have hU : TubeAt (wr.alloc (.cells #[.string u.nm, .slice u.a u.l.length u.cap] 96)) u := ((hs.below BW).each u hm).below B1
      clear huk
      by_cases he : u.nm = nm
      · have n1 : (u.nm.toList == nm.toList) = true := by simp [he]
        have HN : Hid ((!decide (u.nm = nm) && (meetTB t u).isSome) = false) := by show _ = _; simp [he]
        clear he
        go_wp2
        go_roundw
        case rel => exact ⟨k + 1, by omega, by go_num, hb.trans (B1.mono hb.size), others_not HF.out HU.out HN.out⟩
        case measure => simp [intOf]; omega
      · have n1 : (u.nm.toList == nm.toList) = false := namesT_apart he
        obtain ⟨s1, s2, i1, i2, i3, hcl⟩ := clashC_five t.nm u.nm (meetTB t u)
        have hc := meetI_any t u _ htl (hsm u hm) hT hU
        rw [hcl] at hc
        cases hv : (meetTB t u).isSome with
        | true =>
          rw [hv] at hc
          have HN : Hid ((!decide (u.nm = nm) && (meetTB t u).isSome) = true) := by show _ = _; rw [hv]; simp [he]
          clear hv hcl he
          go_wp2_with (go_at_call 82; refine hc.mono ?_; rintro e w2 ⟨rfl, hb2⟩)
          go_ret
          exact ⟨by rw [others_hit HU.out HN.out]; first | done | rfl, ((BW.trans (B1.mono BW.size)).trans (hb2.mono (BW.trans (B1.mono BW.size)).size)).trans ((bel1 _).mono (Nat.le_trans (BW.trans (B1.mono BW.size)).size hb2.size))⟩
        | false =>
          rw [hv] at hc
          have HN : Hid ((!decide (u.nm = nm) && (meetTB t u).isSome) = false) := by show _ = _; rw [hv]; simp
          clear hv hcl he
          go_wp2_with (go_at_call 82; refine hc.mono ?_; rintro e w2 ⟨rfl, hb2⟩)
          go_roundw
          case rel => exact ⟨k + 1, by omega, by go_num, ((hb.trans (B1.mono hb.size)).trans (hb2.mono (hb.trans (B1.mono hb.size)).size)).trans ((bel1 _).mono (Nat.le_trans (hb.trans (B1.mono hb.size)).size hb2.size)), others_not HF.out HU.out HN.out⟩
          case measure => simp [intOf]; omega
    · obtain rfl : k = ts.length := by omega
      have HF2 : Hid (othersB t nm ts = false) := by have h := HF.out; rwa [List.take_length] at h
      go_wp2
      go_ret
      exact ⟨by rw [HF2.out]; first | done | rfl, BW⟩
end Go.Proofs.YtfmdejilhbankaaGreat

namespace Go.Proofs.YtfmdejilhbankaaGreat
open Go.RowKit

/-- A word. -/
structure Wd where
  k : Int
  nm : ByteArray
  n : Int
  p : Pt
abbrev Wd.val (t : Wd) : Value := .agg #[.int .i64 t.k, .string t.nm, .int .i64 t.n, .int .i64 t.p.q, .int .i64 t.p.s, .slice t.p.a t.p.l.length t.p.cap, .int .i64 t.p.fr, .int .i64 t.p.b]
abbrev Wd.put (t : Wd) (g : Nat) : Wd := ⟨t.k, t.nm, t.n, t.p.put g⟩

/-- A word's box. -/
structure WdIn (W : World) (B : Nat) (t : Wd) : Prop where
  lt : B < W.heap.size
  c0 : W.cell? ⟨B, 0, none⟩ = some (.int .i64 t.k)
  c1 : W.cell? ⟨B, 1, none⟩ = some (.string t.nm)
  c2 : W.cell? ⟨B, 2, none⟩ = some (.int .i64 t.n)
  c3 : W.cell? ⟨B, 3, none⟩ = some (.int .i64 t.p.q)
  c4 : W.cell? ⟨B, 4, none⟩ = some (.int .i64 t.p.s)
  c5 : W.cell? ⟨B, 5, none⟩ = some (.slice t.p.a t.p.l.length t.p.cap)
  c6 : W.cell? ⟨B, 6, none⟩ = some (.int .i64 t.p.fr)
  c7 : W.cell? ⟨B, 7, none⟩ = some (.int .i64 t.p.b)
theorem WdIn.keep {W W' : World} {B N : Nat} {t : Wd} (h : WdIn W B t) (hb : Below N W W') (hN : B < N) : WdIn W' B t where
  lt := Nat.lt_of_lt_of_le h.lt hb.size
  c0 := (hb.cell (p := ⟨B, 0, none⟩) hN).trans h.c0
  c1 := (hb.cell (p := ⟨B, 1, none⟩) hN).trans h.c1
  c2 := (hb.cell (p := ⟨B, 2, none⟩) hN).trans h.c2
  c3 := (hb.cell (p := ⟨B, 3, none⟩) hN).trans h.c3
  c4 := (hb.cell (p := ⟨B, 4, none⟩) hN).trans h.c4
  c5 := (hb.cell (p := ⟨B, 5, none⟩) hN).trans h.c5
  c6 := (hb.cell (p := ⟨B, 6, none⟩) hN).trans h.c6
  c7 := (hb.cell (p := ⟨B, 7, none⟩) hN).trans h.c7
theorem WdIn.new (w : World) (t : Wd) (T : TypeId) : WdIn (w.alloc (.cells #[.int .i64 t.k, .string t.nm, .int .i64 t.n, .int .i64 t.p.q, .int .i64 t.p.s, .slice t.p.a t.p.l.length t.p.cap, .int .i64 t.p.fr, .int .i64 t.p.b] T)) w.heap.size t where
  lt := by simp
  c0 := by simp [go_sem]
  c1 := by simp [go_sem]
  c2 := by simp [go_sem]
  c3 := by simp [go_sem]
  c4 := by simp [go_sem]
  c5 := by simp [go_sem]
  c6 := by simp [go_sem]
  c7 := by simp [go_sem]
end Go.Proofs.YtfmdejilhbankaaGreat

namespace Go.Proofs.YtfmdejilhbankaaGreat
open Go.RowKit

abbrev Pt.fly (p : Pt) : Bool := flyB p.q p.s p.fr p.b p.l
def Wd.okB (t : Wd) : Bool := inB t.k 1 6 && nameB t.nm && inB t.n 1 1000000 && (if t.k ≤ 2 then t.p.fly else t.p.none)
end Go.Proofs.YtfmdejilhbankaaGreat

namespace Go.Proofs.YtfmdejilhbankaaGreat
open Go.RowKit

theorem canS_any (p : Pt) (w : World) (hl : p.l.length ≤ 1048576) (h : PtAt w p) :
    Calls Tryz.prog 34 #[p.val] w fun e w' => e = .returned (.bool p.fly) ∧ Below w.heap.size w w' := by
  go_enter Tryz.func34, Tryz.ntmps34
  go_wp2_with fail
  refine (flySpansS_any _ _ _ _ _ p.b0 p.o _ _ _ hl (h.below (bel1 _) h.lt)).mono ?_
  rintro e w1 ⟨v, rfl, _, hb1⟩
  go_wp2
  go_ret
  exact ⟨rfl, (bel1 _).trans (hb1.mono (by simp))⟩
theorem hasFlight_any (hI : SpansSaid) (p : Pt) (w : World) (hl : p.l.length ≤ 1048576) (h : PtAt w p) :
    Calls Tryz.prog 38 #[p.val] w fun e w' => e = .returned (.bool p.fly) ∧ Below w.heap.size w w' := by
  go_enter Tryz.func38, Tryz.ntmps38
  go_wp2_with fail
  refine (hI _ _ _ _ _ p.b0 p.o _ _ _ hl (h.below (bel1 _) h.lt)).mono ?_
  rintro e w1 ⟨v, rfl, _, hb1⟩
  go_wp2
  go_ret
  exact ⟨rfl, (bel1 _).trans (hb1.mono (by simp))⟩

theorem isName_val (s : ByteArray) (v : Bool) (w : World) (hv : nameB s = v) :
    Calls Tryz.prog 77 #[.string s] w fun e w' => e = .returned (.bool v) ∧ Below w.heap.size w w' := by
  rw [← hv]; exact isName_any s w
theorem nameS_val (s : ByteArray) (v : Bool) (w : World) (hv : nameB s = v) :
    Calls Tryz.prog 49 #[.string s] w fun e w' => e = .returned (.bool v) ∧ w' = w := by
  rw [← hv]; exact nameS_any s w
end Go.Proofs.YtfmdejilhbankaaGreat

namespace Go.Proofs.YtfmdejilhbankaaGreat
open Go.RowKit

def sameB (t u : Stp) : Bool := t.x == u.x && (t.y == u.y && (t.lo == u.lo && (t.hi == u.hi && (t.fr == u.fr && (t.by_ == u.by_ && t.ho == u.ho)))))
def sameAt (l l' : List Stp) (j : Nat) : Bool := sameB (l.getD j .zero) (l'.getD j .zero)
def preN : List Stp → List Stp → Nat
  | t :: l, u :: l' => if sameB t u then preN l l' + 1 else 0
  | _, _ => 0
def kindEq (q s q' s' : Int) : Bool := q == q' && s == s'
def sharedN (q s : Int) (l : List Stp) (q' s' : Int) (l' : List Stp) : Nat := if kindEq q s q' s' then preN l l' else 0

theorem preN_at : ∀ (k : Nat) (l l' : List Stp), k ≤ l.length → k ≤ l'.length → (∀ j, j < k → sameAt l l' j = true) → (k = l.length ∨ k = l'.length ∨ sameAt l l' k = false) → preN l l' = k
  | 0, [], l', _, _, _, _ => by cases l' <;> rfl
  | 0, t :: l, [], _, _, _, _ => rfl
  | 0, t :: l, u :: l', _, _, _, h => by
    rcases h with h | h | h
    · simp at h
    · simp at h
    · unfold preN; rw [if_neg]; intro e; unfold sameAt at h; simp [e] at h
  | k + 1, [], _, h, _, _, _ => by simp at h
  | k + 1, t :: l, [], _, h, _, _ => by simp at h
  | k + 1, t :: l, u :: l', h1, h2, h3, h4 => by
    have h0 := h3 0 (by omega)
    unfold sameAt at h0
    simp at h0
    unfold preN
    rw [if_pos h0, preN_at k l l' (by simpa using h1) (by simpa using h2) (fun j hj => by have := h3 (j + 1) (by omega); unfold sameAt at this ⊢; simpa using this) (by
      rcases h4 with h | h | h
      · left; simpa using h
      · right; left; simpa using h
      · right; right; unfold sameAt at h ⊢; simpa using h)]

set_option maxHeartbeats 4000000 in
theorem run_eql_step (t u : Stp) (w : World) :
    (binOp .eql 102 (.agg #[.int .i64 t.x, .int .i64 t.y, .int .i64 t.lo, .int .i64 t.hi, .int .i64 t.fr, .int .i64 t.by_, .bool t.ho]) (.agg #[.int .i64 u.x, .int .i64 u.y, .int .i64 u.lo, .int .i64 u.hi, .int .i64 u.fr, .int .i64 u.by_, .bool u.ho])).run Tryz.prog w = .ok (.bool (sameB t u)) w := by
  unfold sameB
  cases h0 : t.x == u.x with
  | false => simp [go_sem, h0]
  | true =>
    cases h1 : t.y == u.y with
    | false => simp [go_sem, h0, h1]
    | true =>
      cases h2 : t.lo == u.lo with
      | false => simp [go_sem, h0, h1, h2]
      | true =>
        cases h3 : t.hi == u.hi with
        | false => simp [go_sem, h0, h1, h2, h3]
        | true =>
          cases h4 : t.fr == u.fr with
          | false => simp [go_sem, h0, h1, h2, h3, h4]
          | true =>
            cases h5 : t.by_ == u.by_ with
            | false => simp [go_sem, h0, h1, h2, h3, h4, h5]
            | true =>
              cases h6 : t.ho == u.ho with
              | false => simp [go_sem, h0, h1, h2, h3, h4, h5, h6]
              | true =>
                simp [go_sem, h0, h1, h2, h3, h4, h5, h6]

theorem run_eql_kind (q s q' s' : Int) (w : World) : (binOp .eql 40 (.agg #[.int .i64 q, .int .i64 s]) (.agg #[.int .i64 q', .int .i64 s'])).run Tryz.prog w = .ok (.bool (kindEq q s q' s')) w := by
  unfold kindEq
  cases h0 : q == q' with
  | false => simp [go_sem, h0]
  | true =>
    cases h1 : s == s' with
    | false => simp [go_sem, h0, h1]
    | true => simp [go_sem, h0, h1]
theorem run_neq_kind (q s q' s' : Int) (w : World) : (binOp .neq 40 (.agg #[.int .i64 q, .int .i64 s]) (.agg #[.int .i64 q', .int .i64 s'])).run Tryz.prog w = .ok (.bool (!kindEq q s q' s')) w := by
  unfold kindEq
  cases h0 : q == q' with
  | false => simp [go_sem, h0]
  | true =>
    cases h1 : s == s' with
    | false => simp [go_sem, h0, h1]
    | true => simp [go_sem, h0, h1]
theorem run_neq_step (t u : Stp) (w : World) :
    (binOp .neq 102 (.agg #[.int .i64 t.x, .int .i64 t.y, .int .i64 t.lo, .int .i64 t.hi, .int .i64 t.fr, .int .i64 t.by_, .bool t.ho]) (.agg #[.int .i64 u.x, .int .i64 u.y, .int .i64 u.lo, .int .i64 u.hi, .int .i64 u.fr, .int .i64 u.by_, .bool u.ho])).run Tryz.prog w = .ok (.bool (!sameB t u)) w := by
  have h := run_eql_step t u w
  rw [run_eql_struct] at h
  rw [run_neq_struct]
  generalize (Op.equalIn 10000 102 (.agg #[.int .i64 t.x, .int .i64 t.y, .int .i64 t.lo, .int .i64 t.hi, .int .i64 t.fr, .int .i64 t.by_, .bool t.ho]) (.agg #[.int .i64 u.x, .int .i64 u.y, .int .i64 u.lo, .int .i64 u.hi, .int .i64 u.fr, .int .i64 u.by_, .bool u.ho])).run Tryz.prog w = r at h ⊢
  cases r with
  | ok b w' =>
    simp only [Result.andThen_ok, Result.ok.injEq, Value.bool.injEq] at h ⊢
    obtain ⟨rfl, rfl⟩ := h
    exact ⟨rfl, rfl⟩
  | _ => simp [Result.andThen] at h
end Go.Proofs.YtfmdejilhbankaaGreat

namespace Go.Proofs.YtfmdejilhbankaaGreat
open Go.RowKit

theorem none_as (p : Pt) : p.none = (kindEq p.q p.s 0 0 && decide (p.l.length = 0) && (p.fr == 0) && (p.b == 0)) := rfl

theorem noneS_any (p : Pt) (w : World) :
    Calls Tryz.prog 50 #[p.val] w fun e w' => e = .returned (.bool p.none) ∧ Below w.heap.size w w' := by
  obtain ⟨q, s, fr, b, a, b0, o, cap, l⟩ := p
  have eqk := run_eql_kind q s 0 0
  rcases Bool.eq_false_or_eq_true (kindEq q s 0 0) with h1 | h1
  · by_cases h2 : l.length = 0
    · have : l = [] := List.eq_nil_of_length_eq_zero h2
      subst this
      by_cases h3 : fr = 0
      · subst h3
        by_cases h4 : b = 0
        · subst h4
          have ER : Hid (Pt.none ⟨q, s, 0, 0, a, b0, o, cap, []⟩ = true) := by show _ = _; rw [none_as]; simp [h1]
          go_enter Tryz.func50, Tryz.ntmps50
          go_wp2
          go_ret
          exact ⟨by rw [ER.out]; rfl, bel1 _⟩
        · have ER : Hid (Pt.none ⟨q, s, 0, b, a, b0, o, cap, []⟩ = false) := by show _ = _; rw [none_as]; simp [h4]
          have h5 : (b == 0) = false := beq_eq_false_iff_ne.2 h4
          go_enter Tryz.func50, Tryz.ntmps50
          go_wp2
          go_ret
          exact ⟨by rw [ER.out]; rfl, bel1 _⟩
      · have ER : Hid (Pt.none ⟨q, s, fr, b, a, b0, o, cap, []⟩ = false) := by show _ = _; rw [none_as]; simp [h3]
        have h5 : (fr == 0) = false := beq_eq_false_iff_ne.2 h3
        go_enter Tryz.func50, Tryz.ntmps50
        go_wp2
        go_ret
        exact ⟨by rw [ER.out]; rfl, bel1 _⟩
    · have ER : Hid (Pt.none ⟨q, s, fr, b, a, b0, o, cap, l⟩ = false) := by show _ = _; rw [none_as]; simp; intro _ h; subst h; simp at h2
      have h5 : ((l.length : Int) == 0) = false := beq_eq_false_iff_ne.2 (by omega)
      go_enter Tryz.func50, Tryz.ntmps50
      go_wp2
      go_ret
      exact ⟨by rw [ER.out]; rfl, bel1 _⟩
  · have ER : Hid (Pt.none ⟨q, s, fr, b, a, b0, o, cap, l⟩ = false) := by show _ = _; rw [none_as]; simp [h1]
    go_enter Tryz.func50, Tryz.ntmps50
    go_wp2
    go_ret
    exact ⟨by rw [ER.out]; rfl, bel1 _⟩

theorem noneI_any (p : Pt) (w : World) :
    Calls Tryz.prog 101 #[p.val] w fun e w' => e = .returned (.bool p.none) ∧ Below w.heap.size w w' := by
  obtain ⟨q, s, fr, b, a, b0, o, cap, l⟩ := p
  have eqk := run_eql_kind q s 0 0
  rcases Bool.eq_false_or_eq_true (kindEq q s 0 0) with h1 | h1
  · by_cases h2 : l.length = 0
    · have : l = [] := List.eq_nil_of_length_eq_zero h2
      subst this
      by_cases h3 : fr = 0
      · subst h3
        by_cases h4 : b = 0
        · subst h4
          have ER : Hid (Pt.none ⟨q, s, 0, 0, a, b0, o, cap, []⟩ = true) := by show _ = _; rw [none_as]; simp [h1]
          go_enter Tryz.func101, Tryz.ntmps101
          go_wp2
          go_ret
          exact ⟨by rw [ER.out]; rfl, bel1 _⟩
        · have ER : Hid (Pt.none ⟨q, s, 0, b, a, b0, o, cap, []⟩ = false) := by show _ = _; rw [none_as]; simp [h4]
          have h5 : (b == 0) = false := beq_eq_false_iff_ne.2 h4
          go_enter Tryz.func101, Tryz.ntmps101
          go_wp2
          go_ret
          exact ⟨by rw [ER.out]; rfl, bel1 _⟩
      · have ER : Hid (Pt.none ⟨q, s, fr, b, a, b0, o, cap, []⟩ = false) := by show _ = _; rw [none_as]; simp [h3]
        have h5 : (fr == 0) = false := beq_eq_false_iff_ne.2 h3
        go_enter Tryz.func101, Tryz.ntmps101
        go_wp2
        go_ret
        exact ⟨by rw [ER.out]; rfl, bel1 _⟩
    · have ER : Hid (Pt.none ⟨q, s, fr, b, a, b0, o, cap, l⟩ = false) := by show _ = _; rw [none_as]; simp; intro _ h; subst h; simp at h2
      have h5 : ((l.length : Int) == 0) = false := beq_eq_false_iff_ne.2 (by omega)
      go_enter Tryz.func101, Tryz.ntmps101
      go_wp2
      go_ret
      exact ⟨by rw [ER.out]; rfl, bel1 _⟩
  · have ER : Hid (Pt.none ⟨q, s, fr, b, a, b0, o, cap, l⟩ = false) := by show _ = _; rw [none_as]; simp [h1]
    go_enter Tryz.func101, Tryz.ntmps101
    go_wp2
    go_ret
    exact ⟨by rw [ER.out]; rfl, bel1 _⟩
end Go.Proofs.YtfmdejilhbankaaGreat

namespace Go.Proofs.YtfmdejilhbankaaGreat
open Go.RowKit

/-- What was sent, and its number, are ok. -/
def sentOkB (t : Hd) : Bool := if t.sn = 0 then t.x.none else decide (t.n < t.sn) && t.x.fly
def heldB (t : Hd) : Bool := nameB t.nm && decide (1 ≤ t.n) && t.p.fly && sentOkB t
theorem heldB_key {t u : Hd} (h : t.key = u.key) : heldB t = heldB u := by
  obtain ⟨nm, n, ⟨q, s, fr, b, a, b0, o, cap, l⟩, sn, ⟨q', s', fr', b', a', b0', o', cap', l'⟩⟩ := t
  obtain ⟨nm2, n2, ⟨q2, s2, fr2, b2, a2, b02, o2, cap2, l2⟩, sn2, ⟨q2', s2', fr2', b2', a2', b02', o2', cap2', l2'⟩⟩ := u
  simp only [Hd.key, Pt.key, Prod.mk.injEq] at h
  obtain ⟨rfl, rfl, ⟨rfl, rfl, rfl, rfl, rfl⟩, rfl, rfl, rfl, rfl, rfl, rfl⟩ := h
  rfl

theorem canS_val (p : Pt) (v : Bool) (w : World) (hl : p.l.length ≤ 1048576) (h : PtAt w p) (hv : p.fly = v) : Calls Tryz.prog 34 #[p.val] w fun e w' => e = .returned (.bool v) ∧ Below w.heap.size w w' := by
  rw [← hv]; exact canS_any p w hl h
theorem hasFlight_val (hI : SpansSaid) (p : Pt) (v : Bool) (w : World) (hl : p.l.length ≤ 1048576) (h : PtAt w p) (hv : p.fly = v) : Calls Tryz.prog 38 #[p.val] w fun e w' => e = .returned (.bool v) ∧ Below w.heap.size w w' := by
  rw [← hv]; exact hasFlight_any hI p w hl h
theorem noneS_val (p : Pt) (v : Bool) (w : World) (hv : p.none = v) : Calls Tryz.prog 50 #[p.val] w fun e w' => e = .returned (.bool v) ∧ Below w.heap.size w w' := by
  rw [← hv]; exact noneS_any p w

set_option maxRecDepth 20000 in
theorem sentOkI_any (hI : SpansSaid) (t : Hd) (v : Bool) (w : World) (hxl : t.x.l.length ≤ 1048576) (ht : HdAt w t) (hv : sentOkB t = v) :
    Calls Tryz.prog 78 #[t.val] w fun e w' => e = .returned (.bool v) ∧ Below w.heap.size w w' := by
  have B0 := bel1 (w := w) (.cells #[.string t.nm, .int .i64 t.n, .int .i64 t.p.q, .int .i64 t.p.s, .slice t.p.a t.p.l.length t.p.cap, .int .i64 t.p.fr, .int .i64 t.p.b, .int .i64 t.sn, .int .i64 t.x.q, .int .i64 t.x.s, .slice t.x.a t.x.l.length t.x.cap, .int .i64 t.x.fr, .int .i64 t.x.b] 52)
  have hx := ht.x.below B0 ht.x.lt
  by_cases h0 : t.sn = 0
  · have e0 : (t.sn == 0) = true := beq_iff_eq.2 h0
    have HN : Hid (t.x.none = v) := by show _ = _; rw [← hv]; unfold sentOkB; rw [if_pos h0]
    clear hv h0
    go_enter Tryz.func78, Tryz.ntmps78
    go_wp2_with fail
    refine (noneI_any t.x _).mono ?_
    rintro e w1 ⟨rfl, hb1⟩
    rw [HN.out]
    go_wp2
    go_ret
    exact ⟨rfl, B0.trans (hb1.mono B0.size)⟩
  · have e0 : (t.sn == 0) = false := beq_eq_false_iff_ne.2 h0
    by_cases h1 : t.n < t.sn
    · have HN : Hid (t.x.fly = v) := by show _ = _; rw [← hv]; unfold sentOkB; rw [if_neg h0, decide_eq_true h1, Bool.true_and]
      clear hv h0
      go_enter Tryz.func78, Tryz.ntmps78
      go_wp2_with fail
      refine (hasFlight_val hI t.x v _ hxl hx HN.out).mono ?_
      rintro e w1 ⟨rfl, hb1⟩
      go_wp2
      go_ret
      exact ⟨rfl, B0.trans (hb1.mono B0.size)⟩
    · obtain rfl : false = v := by rw [← hv]; unfold sentOkB; rw [if_neg h0, decide_eq_false h1, Bool.false_and]
      clear hv h0
      go_enter Tryz.func78, Tryz.ntmps78
      go_wp2
      go_ret
      exact ⟨rfl, B0⟩

set_option maxRecDepth 20000 in
theorem heldOkI_any (hI : SpansSaid) (t : Hd) (v : Bool) (w : World) (hpl : t.p.l.length ≤ 1048576) (hxl : t.x.l.length ≤ 1048576) (ht : HdAt w t) (hv : heldB t = v) :
    Calls Tryz.prog 55 #[t.val] w fun e w' => e = .returned (.bool v) ∧ Below w.heap.size w w' := by
  have B0 := bel1 (w := w) (.cells #[.string t.nm, .int .i64 t.n, .int .i64 t.p.q, .int .i64 t.p.s, .slice t.p.a t.p.l.length t.p.cap, .int .i64 t.p.fr, .int .i64 t.p.b, .int .i64 t.sn, .int .i64 t.x.q, .int .i64 t.x.s, .slice t.x.a t.x.l.length t.x.cap, .int .i64 t.x.fr, .int .i64 t.x.b] 52)
  have X0 := HdIn.new w t 52
  unfold heldB at hv
  cases hn : nameB t.nm with
  | false =>
    obtain rfl : false = v := by rw [← hv, hn]; rfl
    clear hv
    go_enter Tryz.func55, Tryz.ntmps55
    go_wp2_with (go_at_call 77; refine (isName_val t.nm false _ hn).mono ?_; rintro e w1 ⟨rfl, hb1⟩)
    go_ret
    exact ⟨rfl, B0.trans (hb1.mono B0.size)⟩
  | true =>
    rw [hn, Bool.true_and] at hv
    go_enter Tryz.func55, Tryz.ntmps55
    go_wp2_with fail
    refine (isName_val t.nm true _ hn).mono ?_
    rintro e w1 ⟨rfl, hb1⟩
    have B1 := B0.trans (hb1.mono B0.size)
    have X1 := X0.keep hb1 X0.lt
    obtain ⟨c0, c1, c2, c3, c4, c5, c6, c7, c8, c9, c10, c11, c12⟩ := cl_cells X1.cs
    simp only [Nat.zero_add] at c0 c1 c2 c3 c4 c5 c6 c7 c8 c9 c10 c11 c12
    clear hb1 hn
    by_cases h1 : (1 : Int) ≤ t.n
    · rw [decide_eq_true h1, Bool.true_and] at hv
      cases hf : t.p.fly with
      | false =>
        obtain rfl : false = v := by rw [← hv, hf]; rfl
        clear hv
        go_wp2_with (go_at_call 38; refine (hasFlight_val hI t.p false _ hpl (ht.p.below B1 ht.p.lt) hf).mono ?_; rintro e w2 ⟨rfl, hb2⟩)
        go_ret
        exact ⟨rfl, B1.trans (hb2.mono B1.size)⟩
      | true =>
        rw [hf, Bool.true_and] at hv
        go_wp2_with fail
        refine (hasFlight_val hI t.p true _ hpl (ht.p.below B1 ht.p.lt) hf).mono ?_
        rintro e w2 ⟨rfl, hb2⟩
        have B2 := B1.trans (hb2.mono B1.size)
        have X2 := X1.keep hb2 X1.lt
        obtain ⟨d0, d1, d2, d3, d4, d5, d6, d7, d8, d9, d10, d11, d12⟩ := cl_cells X2.cs
        simp only [Nat.zero_add] at d0 d1 d2 d3 d4 d5 d6 d7 d8 d9 d10 d11 d12
        clear hb2 hf c0 c1 c2 c3 c4 c5 c6 c7 c8 c9 c10 c11 c12
        go_wp2_with (go_at_call 78; refine (sentOkI_any hI t v _ hxl (ht.below B2) hv).mono ?_; rintro e w3 ⟨rfl, hb3⟩)
        go_ret
        exact ⟨rfl, B2.trans (hb3.mono B2.size)⟩
    · obtain rfl : false = v := by rw [← hv, decide_eq_false h1]; rfl
      clear hv
      go_wp2
      go_ret
      exact ⟨rfl, B1⟩

/-- As the specification asks it. -/
theorem sentOkB_as {t : Hd} (h : 1 ≤ t.n) : sentOkB t = (t.x.none && (t.sn == 0) || t.x.fly && decide (t.n < t.sn)) := by
  unfold sentOkB
  by_cases h0 : t.sn = 0
  · rw [if_pos h0, decide_eq_false (by omega), Bool.and_false, Bool.or_false, beq_iff_eq.2 h0, Bool.and_true]
  · rw [if_neg h0, beq_eq_false_iff_ne.2 h0, Bool.and_false, Bool.false_or, Bool.and_comm]

set_option maxRecDepth 20000 in
set_option maxHeartbeats 1000000 in
theorem heldOkS_any (t : Hd) (v : Bool) (w : World) (hpl : t.p.l.length ≤ 1048576) (hxl : t.x.l.length ≤ 1048576) (ht : HdAt w t) (hv : heldB t = v) :
    Calls Tryz.prog 22 #[t.val] w fun e w' => e = .returned (.bool v) ∧ Below w.heap.size w w' := by
  have B0 := bel1 (w := w) (.cells #[.string t.nm, .int .i64 t.n, .int .i64 t.p.q, .int .i64 t.p.s, .slice t.p.a t.p.l.length t.p.cap, .int .i64 t.p.fr, .int .i64 t.p.b, .int .i64 t.sn, .int .i64 t.x.q, .int .i64 t.x.s, .slice t.x.a t.x.l.length t.x.cap, .int .i64 t.x.fr, .int .i64 t.x.b] 52)
  have X0 := HdIn.new w t 52
  unfold heldB at hv
  cases hn : nameB t.nm with
  | false =>
    obtain rfl : false = v := by rw [← hv, hn]; rfl
    clear hv
    go_enter Tryz.func22, Tryz.ntmps22
    go_wp2_with (go_at_call 49; refine (nameS_val t.nm false _ hn).mono ?_; rintro e w1 ⟨rfl, rfl⟩)
    go_ret
    exact ⟨rfl, B0⟩
  | true =>
    rw [hn, Bool.true_and] at hv
    by_cases h1 : (1 : Int) ≤ t.n
    · rw [decide_eq_true h1, Bool.true_and, sentOkB_as h1] at hv
      have h1' : ¬ t.n < 1 := by omega
      cases hf : t.p.fly with
      | false =>
        obtain rfl : false = v := by rw [← hv, hf]; rfl
        clear hv
        go_enter Tryz.func22, Tryz.ntmps22
        go_wp2_with (first
          | (go_at_call 49; refine (nameS_val t.nm true _ hn).mono ?_; rintro e w1 ⟨rfl, rfl⟩)
          | (go_at_call 34; refine (canS_val t.p false _ hpl (ht.p.below B0 ht.p.lt) hf).mono ?_; rintro e w2 ⟨rfl, hb2⟩))
        go_ret
        exact ⟨rfl, B0.trans (hb2.mono B0.size)⟩
      | true =>
        rw [hf, Bool.true_and] at hv
        go_enter Tryz.func22, Tryz.ntmps22
        go_wp2_with (first
          | (go_at_call 49; refine (nameS_val t.nm true _ hn).mono ?_; rintro e w1 ⟨rfl, rfl⟩)
          | fail)
        refine (canS_val t.p true _ hpl (ht.p.below B0 ht.p.lt) hf).mono ?_
        rintro e w2 ⟨rfl, hb2⟩
        have B2 := B0.trans (hb2.mono B0.size)
        have X2 := X0.keep hb2 X0.lt
        obtain ⟨d0, d1, d2, d3, d4, d5, d6, d7, d8, d9, d10, d11, d12⟩ := cl_cells X2.cs
        simp only [Nat.zero_add] at d0 d1 d2 d3 d4 d5 d6 d7 d8 d9 d10 d11 d12
        clear hb2 hf hn
        cases hx : t.x.none with
        | true =>
          by_cases h0 : t.sn = 0
          · have e0 : (t.sn == 0) = true := beq_iff_eq.2 h0
            obtain rfl : true = v := by rw [← hv, hx, e0]; rfl
            clear hv h0
            go_wp2_with (go_at_call 50; refine (noneS_val t.x true _ hx).mono ?_; rintro e w3 ⟨rfl, hb3⟩; obtain ⟨ec0, ec1, ec2, ec3, ec4, ec5, ec6, ec7, ec8, ec9, ec10, ec11, ec12⟩ := cl_cells (X2.keep hb3 X2.lt).cs; simp only [Nat.zero_add] at ec0 ec1 ec2 ec3 ec4 ec5 ec6 ec7 ec8 ec9 ec10 ec11 ec12)
            go_ret
            exact ⟨rfl, B2.trans (hb3.mono B2.size)⟩
          · have e0 : (t.sn == 0) = false := beq_eq_false_iff_ne.2 h0
            rw [e0] at hv
            go_wp2_with fail
            refine (noneS_val t.x true _ hx).mono ?_
            rintro e w3 ⟨rfl, hb3⟩
            have B3 := B2.trans (hb3.mono B2.size)
            have X3 := X2.keep hb3 X2.lt
            obtain ⟨ec0, ec1, ec2, ec3, ec4, ec5, ec6, ec7, ec8, ec9, ec10, ec11, ec12⟩ := cl_cells X3.cs
            simp only [Nat.zero_add] at ec0 ec1 ec2 ec3 ec4 ec5 ec6 ec7 ec8 ec9 ec10 ec11 ec12
            clear hb3 hx d0 d1 d2 d3 d4 d5 d6 d7 d8 d9 d10 d11 d12
            cases hfx : t.x.fly with
            | false =>
              obtain rfl : false = v := by rw [← hv, hfx]; simp
              clear hv
              go_wp2_with (go_at_call 34; refine (canS_val t.x false _ hxl (ht.x.below B3 ht.x.lt) hfx).mono ?_; rintro e w4 ⟨rfl, hb4⟩)
              go_ret
              exact ⟨by first | rfl | simp [hns], B3.trans (hb4.mono B3.size)⟩
            | true =>
              by_cases hns : t.n < t.sn
              · obtain rfl : true = v := by rw [← hv, hfx, decide_eq_true hns]; simp
                clear hv
                go_wp2_with (go_at_call 34; refine (canS_val t.x true _ hxl (ht.x.below B3 ht.x.lt) hfx).mono ?_; rintro e w4 ⟨rfl, hb4⟩; obtain ⟨fc0, fc1, fc2, fc3, fc4, fc5, fc6, fc7, fc8, fc9, fc10, fc11, fc12⟩ := cl_cells (X3.keep hb4 X3.lt).cs; simp only [Nat.zero_add] at fc0 fc1 fc2 fc3 fc4 fc5 fc6 fc7 fc8 fc9 fc10 fc11 fc12)
                go_ret
                exact ⟨by first | rfl | simp [hns], B3.trans (hb4.mono B3.size)⟩
              · obtain rfl : false = v := by rw [← hv, hfx, decide_eq_false hns]; simp
                clear hv
                go_wp2_with (go_at_call 34; refine (canS_val t.x true _ hxl (ht.x.below B3 ht.x.lt) hfx).mono ?_; rintro e w4 ⟨rfl, hb4⟩; obtain ⟨fc0, fc1, fc2, fc3, fc4, fc5, fc6, fc7, fc8, fc9, fc10, fc11, fc12⟩ := cl_cells (X3.keep hb4 X3.lt).cs; simp only [Nat.zero_add] at fc0 fc1 fc2 fc3 fc4 fc5 fc6 fc7 fc8 fc9 fc10 fc11 fc12)
                go_ret
                exact ⟨by first | rfl | simp [hns], B3.trans (hb4.mono B3.size)⟩
        | false =>
          rw [hx] at hv
          go_wp2_with fail
          refine (noneS_val t.x false _ hx).mono ?_
          rintro e w3 ⟨rfl, hb3⟩
          have B3 := B2.trans (hb3.mono B2.size)
          have X3 := X2.keep hb3 X2.lt
          obtain ⟨ec0, ec1, ec2, ec3, ec4, ec5, ec6, ec7, ec8, ec9, ec10, ec11, ec12⟩ := cl_cells X3.cs
          simp only [Nat.zero_add] at ec0 ec1 ec2 ec3 ec4 ec5 ec6 ec7 ec8 ec9 ec10 ec11 ec12
          clear hb3 hx d0 d1 d2 d3 d4 d5 d6 d7 d8 d9 d10 d11 d12
          cases hfx : t.x.fly with
          | false =>
            obtain rfl : false = v := by rw [← hv, hfx]; simp
            clear hv
            go_wp2_with (go_at_call 34; refine (canS_val t.x false _ hxl (ht.x.below B3 ht.x.lt) hfx).mono ?_; rintro e w4 ⟨rfl, hb4⟩)
            go_ret
            exact ⟨by first | rfl | simp [hns], B3.trans (hb4.mono B3.size)⟩
          | true =>
            by_cases hns : t.n < t.sn
            · obtain rfl : true = v := by rw [← hv, hfx, decide_eq_true hns]; simp
              clear hv
              go_wp2_with (go_at_call 34; refine (canS_val t.x true _ hxl (ht.x.below B3 ht.x.lt) hfx).mono ?_; rintro e w4 ⟨rfl, hb4⟩; obtain ⟨fc0, fc1, fc2, fc3, fc4, fc5, fc6, fc7, fc8, fc9, fc10, fc11, fc12⟩ := cl_cells (X3.keep hb4 X3.lt).cs; simp only [Nat.zero_add] at fc0 fc1 fc2 fc3 fc4 fc5 fc6 fc7 fc8 fc9 fc10 fc11 fc12)
              go_ret
              exact ⟨by first | rfl | simp [hns], B3.trans (hb4.mono B3.size)⟩
            · obtain rfl : false = v := by rw [← hv, hfx, decide_eq_false hns]; simp
              clear hv
              go_wp2_with (go_at_call 34; refine (canS_val t.x true _ hxl (ht.x.below B3 ht.x.lt) hfx).mono ?_; rintro e w4 ⟨rfl, hb4⟩; obtain ⟨fc0, fc1, fc2, fc3, fc4, fc5, fc6, fc7, fc8, fc9, fc10, fc11, fc12⟩ := cl_cells (X3.keep hb4 X3.lt).cs; simp only [Nat.zero_add] at fc0 fc1 fc2 fc3 fc4 fc5 fc6 fc7 fc8 fc9 fc10 fc11 fc12)
              go_ret
              exact ⟨by first | rfl | simp [hns], B3.trans (hb4.mono B3.size)⟩
    · obtain rfl : false = v := by rw [← hv, decide_eq_false h1]; rfl
      have h1' : t.n < 1 := by omega
      clear hv
      go_enter Tryz.func22, Tryz.ntmps22
      go_wp2_with (go_at_call 49; refine (nameS_val t.nm true _ hn).mono ?_; rintro e w1 ⟨rfl, rfl⟩)
      go_ret
      exact ⟨rfl, B0⟩
end Go.Proofs.YtfmdejilhbankaaGreat

namespace Go.Proofs.YtfmdejilhbankaaGreat
open Go.RowKit Go.Shelf
attribute [local go_sem] Oper.semAt_some

/-- A name and a path. -/
abbrev NP := ByteArray × Pt
def bothOf (t : Hd) : List NP := [(t.nm, t.p), (t.nm, t.x)]
/-- Whatever may be flown. -/
def mayL (ts : List Hd) : List NP := ts.flatMap bothOf
def mayTo (ts : List Hd) (k : Nat) : List NP := mayL (ts.take k)
theorem mayTo_zero (ts : List Hd) : mayTo ts 0 = [] := rfl
theorem mayTo_all (ts : List Hd) : mayTo ts ts.length = mayL ts := by rw [mayTo, List.take_length]
theorem mayTo_succ {ts : List Hd} {k : Nat} {t : Hd} (h : ts[k]? = some t) : mayTo ts (k + 1) = mayTo ts k ++ bothOf t := by
  unfold mayTo mayL
  rw [List.take_add_one, h, List.flatMap_append]
  simp
theorem mayL_length (ts : List Hd) : (mayL ts).length = 2 * ts.length := by
  induction ts with
  | nil => rfl
  | cons t ts ih =>
    show (bothOf t ++ mayL ts).length = _
    rw [List.length_append, ih]
    simp [bothOf]
    omega
theorem mayTo_length {ts : List Hd} {k : Nat} (h : k ≤ ts.length) : (mayTo ts k).length = 2 * k := by
  rw [mayTo, mayL_length, List.length_take]
  omega
theorem mayTo_pre (ts : List Hd) (k : Nat) : ∃ post, mayL ts = mayTo ts k ++ post := by
  refine ⟨mayL (ts.drop k), ?_⟩
  unfold mayTo mayL
  rw [← List.flatMap_append, List.take_append_drop]
theorem mayTo_pre1 {ts : List Hd} {k : Nat} {t : Hd} (h : ts[k]? = some t) : ∃ post, mayL ts = (mayTo ts k ++ [(t.nm, t.p)]) ++ post := by
  obtain ⟨post, hp⟩ := mayTo_pre ts (k + 1)
  refine ⟨(t.nm, t.x) :: post, ?_⟩
  rw [hp, mayTo_succ h]
  simp [bothOf]

/-- One of these. -/
abbrev NE (ts : List Hd) : Type := { x : NP // x ∈ mayL ts }
abbrev vN {ts : List Hd} (x : NE ts) : NP := x.1
abbrev encN {ts : List Hd} (x : NE ts) : Array Value := #[.string x.1.1, x.1.2.val]
theorem mem_held {ts : List Hd} {k : Nat} {t : Hd} (h : ts[k]? = some t) : (t.nm, t.p) ∈ mayL ts := List.mem_flatMap.2 ⟨t, List.mem_of_getElem? h, by simp [bothOf]⟩
theorem mem_sent {ts : List Hd} {k : Nat} {t : Hd} (h : ts[k]? = some t) : (t.nm, t.x) ∈ mayL ts := List.mem_flatMap.2 ⟨t, List.mem_of_getElem? h, by simp [bothOf]⟩
theorem of_may {ts : List Hd} (x : NE ts) : ∃ t ∈ ts, x.1 = (t.nm, t.p) ∨ x.1 = (t.nm, t.x) := by
  obtain ⟨x, hx⟩ := x
  obtain ⟨t, ht, h⟩ := List.mem_flatMap.1 hx
  exact ⟨t, ht, by simpa [bothOf] using h⟩

/-- Boxes of the iterator's kinds, and the row of block b, lie as they lay. -/
structure KeepS (n₀ b : Nat) (A B : World) : Prop where
  size : A.heap.size ≤ B.heap.size
  held : ∀ (k : Nat) (cs : Array Value), A.heap[k]? = some (.cells cs 52 (0, 0)) → B.heap[k]? = some (.cells cs 52 (0, 0))
  path : ∀ (k : Nat) (cs : Array Value), A.heap[k]? = some (.cells cs 43 (0, 0)) → B.heap[k]? = some (.cells cs 43 (0, 0))
  list : ∀ (k : Nat) (cs : Array Value), A.heap[k]? = some (.cells cs 27 (0, 0)) → B.heap[k]? = some (.cells cs 27 (0, 0))
  fn : ∀ (k : Nat) (cs : Array Value), A.heap[k]? = some (.cells cs 121 (0, 0)) → B.heap[k]? = some (.cells cs 121 (0, 0))
  row : b < n₀ → B.heap[b]? = A.heap[b]?
theorem KeepS.refl (n₀ b : Nat) (A : World) : KeepS n₀ b A A := ⟨Nat.le_refl _, fun _ _ h => h, fun _ _ h => h, fun _ _ h => h, fun _ _ h => h, fun _ => rfl⟩
theorem KeepS.trans {n₀ b : Nat} {A B C : World} (h : KeepS n₀ b A B) (k : KeepS n₀ b B C) : KeepS n₀ b A C :=
  ⟨Nat.le_trans h.size k.size, fun i c e => k.held i c (h.held i c e), fun i c e => k.path i c (h.path i c e), fun i c e => k.list i c (h.list i c e), fun i c e => k.fn i c (h.fn i c e), fun e => (k.row e).trans (h.row e)⟩
theorem KeepS.of {n₀ b : Nat} {A B : World} (hn : n₀ ≤ A.heap.size) (h : Below A.heap.size A B) : KeepS n₀ b A B :=
  ⟨h.size, fun i _ e => (h.block i (lt_of_block e)).trans e, fun i _ e => (h.block i (lt_of_block e)).trans e, fun i _ e => (h.block i (lt_of_block e)).trans e, fun i _ e => (h.block i (lt_of_block e)).trans e, fun e => h.block b (by omega)⟩
theorem KeepS.putObj {n₀ b : Nat} {w : World} (hn : n₀ ≤ w.heap.size) (W : World) (l : Nat) (o o' : Obj) (hl : w.heap.size ≤ l) (h : W.heap[l]? = some o) (hc : o.isCells = false) (_ : o.isWalk = false) : KeepS n₀ b W (W.putObj l o') := by
  have H : ∀ (k : Nat) (cs : Array Value) (T : TypeId), W.heap[k]? = some (.cells cs T (0, 0)) → (W.putObj l o').heap[k]? = some (.cells cs T (0, 0)) := fun k cs T e => by
    rw [World.putObj_heap_other (by rintro rfl; rw [h] at e; cases e; cases hc)]
    exact e
  exact ⟨by simp [World.putObj], fun k cs e => H k cs _ e, fun k cs e => H k cs _ e, fun k cs e => H k cs _ e, fun k cs e => H k cs _ e, fun e => World.putObj_heap_other (by omega)⟩
theorem grown_none {A B : World} (h : Below A.heap.size A B) : A.grownBy B none := ⟨h.os, h.tape, h.output, h.size, fun k hk _ => h.block k hk⟩
theorem cl_block {W : World} {H : Nat} {t : Hd} {T : TypeId} (h : W.heap[H]? = some (.cells #[.string t.nm, .int .i64 t.n, .int .i64 t.p.q, .int .i64 t.p.s, .slice t.p.a t.p.l.length t.p.cap, .int .i64 t.p.fr, .int .i64 t.p.b, .int .i64 t.sn, .int .i64 t.x.q, .int .i64 t.x.s, .slice t.x.a t.x.l.length t.x.cap, .int .i64 t.x.fr, .int .i64 t.x.b] T (0, 0))) : W.rangeAt H 0 t.cl := fun j v hv => by
  match j, hv with
  | 0, hv | 1, hv | 2, hv | 3, hv | 4, hv | 5, hv | 6, hv | 7, hv | 8, hv | 9, hv | 10, hv | 11, hv | 12, hv => simp at hv; subst hv; simp [World.cell?, h]

theorem paths_any (t : Hd) (w : World) :
    Calls Tryz.prog 81 #[t.val] w fun e w' => e = .returned (.agg #[.int .i64 t.p.q, .int .i64 t.p.s, .slice t.p.a t.p.l.length t.p.cap, .int .i64 t.p.fr, .int .i64 t.p.b, .int .i64 t.x.q, .int .i64 t.x.s, .slice t.x.a t.x.l.length t.x.cap, .int .i64 t.x.fr, .int .i64 t.x.b]) ∧ Below w.heap.size w w' := by
  go_enter Tryz.func81, Tryz.ntmps81
  go_wp2
  refine bodyPost_ret (v := .agg #[.int .i64 t.p.q, .int .i64 t.p.s, .slice t.p.a t.p.l.length t.p.cap, .int .i64 t.p.fr, .int .i64 t.p.b, .int .i64 t.x.q, .int .i64 t.x.s, .slice t.x.a t.x.l.length t.x.cap, .int .i64 t.x.fr, .int .i64 t.x.b]) (by simp [results, Tryz.results81, go_sem]) rfl ⟨rfl, ?_⟩
  exact bel2 _ _

theorem idx0 (t : Hd) (W : World) : (Instr.index 142 (.agg #[.int .i64 t.p.q, .int .i64 t.p.s, .slice t.p.a t.p.l.length t.p.cap, .int .i64 t.p.fr, .int .i64 t.p.b, .int .i64 t.x.q, .int .i64 t.x.s, .slice t.x.a t.x.l.length t.x.cap, .int .i64 t.x.fr, .int .i64 t.x.b]) (.int .i64 0)).run Tryz.prog W = .ok (.agg #[.int .i64 t.p.q, .int .i64 t.p.s, .slice t.p.a t.p.l.length t.p.cap, .int .i64 t.p.fr, .int .i64 t.p.b]) W := by
  simp [Instr.index, run_underlying Tryz.underlying142, go_sem]
theorem idx1 (t : Hd) (W : World) : (Instr.index 142 (.agg #[.int .i64 t.p.q, .int .i64 t.p.s, .slice t.p.a t.p.l.length t.p.cap, .int .i64 t.p.fr, .int .i64 t.p.b, .int .i64 t.x.q, .int .i64 t.x.s, .slice t.x.a t.x.l.length t.x.cap, .int .i64 t.x.fr, .int .i64 t.x.b]) (.int .i64 1)).run Tryz.prog W = .ok (.agg #[.int .i64 t.x.q, .int .i64 t.x.s, .slice t.x.a t.x.l.length t.x.cap, .int .i64 t.x.fr, .int .i64 t.x.b]) W := by
  simp [Instr.index, run_underlying Tryz.underlying142, go_sem]

set_option maxRecDepth 100000 in
set_option maxHeartbeats 4000000 in
theorem hs1_in (n : Nat) (hn : 1 ≤ n) (lp Ba Bb n₀ b o ca : Nat) (a : Option Addr) (ts : List Hd) (hl : ts.length ≤ 1048576) (J Jx : List (NE ts) → World → Prop)
    (hJ : ∀ s A B, J s A → A.grownBy B none → J s B)
    (hY : ∀ pre x W, J pre W → pre.length < 2 * ts.length → YieldAt Fence.wide (n - 1) Tryz.prog lp (encN x) W fun e W' =>
      (e = .returned (.bool true) ∧ J (pre ++ [x]) W' ∧ KeepS n₀ b W W') ∨ (e = .returned (.bool false) ∧ Jx (pre ++ [x]) W'))
    (W : World) (hnW : n₀ ≤ W.heap.size) (ha : W.heap[Ba]? = some (.cells #[.slice a ts.length ca] 27 (0, 0))) (hb : W.heap[Bb]? = some (.cells #[.func (.func 81) #[] #[]] 121 (0, 0)))
    (hs : HdsAt W a b o ts) (hbn : ts ≠ [] → b < n₀) (h0 : J [] W) :
    CallsIn Fence.wide n Tryz.prog 102 #[.func (.yield lp) #[] #[], .pointer (some ⟨Ba, 0, none⟩), .pointer (some ⟨Bb, 0, none⟩)] W fun e W' => (∃ v, e = .returned v) ∧
      ((∃ ys, ys.map vN = mayL ts ∧ J ys W') ∨ (∃ pre : List (NE ts), (∃ post, mayL ts = pre.map vN ++ post) ∧ Jx pre W')) := by
  refine callsIn_of_wp Tryz.func102 rfl trivial ?_ rfl
  simp only [Tryz.ntmps102, List.size_toArray, List.length_cons, List.length_nil, Nat.reduceAdd, Nat.reduceSub, Array.replicate_succ, Array.replicate_zero, List.push_toArray, List.append_toArray, List.nil_append, List.cons_append]
  have hca : W.cell? ⟨Ba, 0, none⟩ = some (.slice a ts.length ca) := by simp [World.cell?, ha]
  gi_wp2
  gi_loopw [10] (fun i wr => ∃ k : Nat, k ≤ ts.length ∧ i = .int .i64 k ∧ (∃ pre : List (NE ts), pre.map vN = mayTo ts k ∧ J pre wr) ∧ KeepS n₀ b W wr) (fun i _ => ts.length - (intOf i).toNat)
  case atStart => exact ⟨0, Nat.zero_le _, rfl, ⟨[], rfl, h0⟩, KeepS.refl _ _ _⟩
  case round =>
    obtain ⟨k, hk, rfl, hJs, hnx⟩ := hrel
    by_cases hlt : k < ts.length
    · obtain ⟨t, htk⟩ : ∃ t, ts[k]? = some t := ⟨ts[k], List.getElem?_eq_getElem hlt⟩
      have hne : ts ≠ [] := by intro e; subst e; simp at hlt
      obtain rfl := hs.here hne
      have hrow : wr.rangeAt b (o + k * 13) t.cl := fun j v hv => (World.cell?_of_block (w := W) (a := ⟨b, o + k * 13 + j, none⟩) (hnx.row (hbn hne))).trans (hs.cell k t htk j v hv)
      obtain ⟨e0, e1, e2, e3, e4, e5, e6, e7, e8, e9, e10, e11, e12⟩ := cl_cells hrow
      have hcb : wr.cell? ⟨Bb, 0, none⟩ = some (.func (.func 81) #[] #[]) := by simp [World.cell?, hnx.fn Bb _ hb]
      have k0 : (0 : Int) ≤ (k : Int) := by omega
      have k1 : (k : Int) < (ts.length : Int) := by omega
      have HT : Hid (ts[k]? = some t) := htk
      have hbl : Bb < wr.heap.size := lt_of_block (hnx.fn Bb _ hb)
      have hcb2 : (wr.alloc (.cells #[.string t.nm, .int .i64 t.n, .int .i64 t.p.q, .int .i64 t.p.s, .slice t.p.a t.p.l.length t.p.cap, .int .i64 t.p.fr, .int .i64 t.p.b, .int .i64 t.sn, .int .i64 t.x.q, .int .i64 t.x.s, .slice t.x.a t.x.l.length t.x.cap, .int .i64 t.x.fr, .int .i64 t.x.b] 52)).cell? ⟨Bb, 0, none⟩ = some (.func (.func 81) #[] #[]) := ((bel1 (w := wr) (.cells #[.string t.nm, .int .i64 t.n, .int .i64 t.p.q, .int .i64 t.p.s, .slice t.p.a t.p.l.length t.p.cap, .int .i64 t.p.fr, .int .i64 t.p.b, .int .i64 t.sn, .int .i64 t.x.q, .int .i64 t.x.s, .slice t.x.a t.x.l.length t.x.cap, .int .i64 t.x.fr, .int .i64 t.x.b] 52)).cell (p := ⟨Bb, 0, none⟩) hbl).trans hcb
      clear htk hrow
      gi_wp2_with (refine ⟨trivial, ?_⟩; gi_at_call 81; refine (callsIn_wide.2 (paths_any t _)).mono ?_; rintro e w2 ⟨rfl, hb2⟩)
      have B2 : Below wr.heap.size wr w2 := (bel1 (w := wr) (.cells #[.string t.nm, .int .i64 t.n, .int .i64 t.p.q, .int .i64 t.p.s, .slice t.p.a t.p.l.length t.p.cap, .int .i64 t.p.fr, .int .i64 t.p.b, .int .i64 t.sn, .int .i64 t.x.q, .int .i64 t.x.s, .slice t.x.a t.x.l.length t.x.cap, .int .i64 t.x.fr, .int .i64 t.x.b] 52)).trans (hb2.mono (by simp))
      have H2 : w2.heap[wr.heap.size]? = some (.cells #[.string t.nm, .int .i64 t.n, .int .i64 t.p.q, .int .i64 t.p.s, .slice t.p.a t.p.l.length t.p.cap, .int .i64 t.p.fr, .int .i64 t.p.b, .int .i64 t.sn, .int .i64 t.x.q, .int .i64 t.x.s, .slice t.x.a t.x.l.length t.x.cap, .int .i64 t.x.fr, .int .i64 t.x.b] 52 (0, 0)) := (hb2.block _ (by simp)).trans (heap_alloc_new wr (.cells #[.string t.nm, .int .i64 t.n, .int .i64 t.p.q, .int .i64 t.p.s, .slice t.p.a t.p.l.length t.p.cap, .int .i64 t.p.fr, .int .i64 t.p.b, .int .i64 t.sn, .int .i64 t.x.q, .int .i64 t.x.s, .slice t.x.a t.x.l.length t.x.cap, .int .i64 t.x.fr, .int .i64 t.x.b] 52))
      obtain ⟨pre, hpre, hJs⟩ := hJs
      have J2 := hJ _ _ _ hJs (grown_none B2)
      have K2 : KeepS n₀ b W w2 := hnx.trans (KeepS.of (by have := hnx.size; omega) B2)
      clear hJs e0 e1 e2 e3 e4 e5 e6 e7 e8 e9 e10 e11 e12 hcb hcb2 hb2 B2
      generalize wr.heap.size = B3 at H2 ⊢
      gi_loopw [17] (fun i wr3 => ∃ j : Nat, j ≤ 2 ∧ i = .int .i64 j ∧ (∃ pre : List (NE ts), J pre wr3 ∧ ((j = 0 ∧ pre.map vN = mayTo ts k) ∨ (j = 1 ∧ pre.map vN = mayTo ts k ++ [(t.nm, t.p)]) ∨ (j = 2 ∧ pre.map vN = mayTo ts (k + 1)))) ∧ KeepS n₀ b W wr3 ∧ wr3.heap[B3]? = some (.cells #[.string t.nm, .int .i64 t.n, .int .i64 t.p.q, .int .i64 t.p.s, .slice t.p.a t.p.l.length t.p.cap, .int .i64 t.p.fr, .int .i64 t.p.b, .int .i64 t.sn, .int .i64 t.x.q, .int .i64 t.x.s, .slice t.x.a t.x.l.length t.x.cap, .int .i64 t.x.fr, .int .i64 t.x.b] 52 (0, 0))) (fun i _ => 2 - (intOf i).toNat)
      case atStart => exact ⟨0, by omega, rfl, ⟨pre, J2, .inl ⟨rfl, hpre⟩⟩, K2, H2⟩
      case round =>
        clear J2 K2 H2 hpre pre
        obtain ⟨j, hj, rfl, ⟨pre, hJs, hpre⟩, hk3, hH⟩ := hrel
        rcases hpre with ⟨rfl, hpre⟩ | ⟨rfl, hpre⟩ | ⟨rfl, hpre⟩
        · skip
          obtain ⟨fn, tmps, assign, body, hy, hR⟩ := hY pre ⟨(t.nm, t.p), mem_held HT.out⟩ (wr.alloc (.cells #[.int .i64 t.p.q, .int .i64 t.p.s, .slice t.p.a t.p.l.length t.p.cap, .int .i64 t.p.fr, .int .i64 t.p.b] 43)) (hJ _ _ _ hJs (grown_none (bel1 _))) (by have e := congrArg List.length hpre; rw [List.length_map, mayTo_length (by omega)] at e; omega)
          have hnext : Hid ((pre ++ [(⟨(t.nm, t.p), mem_held HT.out⟩ : NE ts)]).map vN = mayTo ts k ++ [(t.nm, t.p)]) := by show _ = _; rw [List.map_append, hpre]; rfl
          have hpl : pre.length < 2 * ts.length := by have e := congrArg List.length hpre; rw [List.length_map, mayTo_length (by omega)] at e; omega
          clear hpre
          dsimp only [encN] at hy
          clear hY
          have c0 : (wr.alloc (.cells #[.int .i64 t.p.q, .int .i64 t.p.s, .slice t.p.a t.p.l.length t.p.cap, .int .i64 t.p.fr, .int .i64 t.p.b] 43)).cell? ⟨B3, 0, none⟩ = some (.string t.nm) := ((bel1 (w := wr) (.cells #[.int .i64 t.p.q, .int .i64 t.p.s, .slice t.p.a t.p.l.length t.p.cap, .int .i64 t.p.fr, .int .i64 t.p.b] 43)).cell (p := ⟨B3, 0, none⟩) (lt_of_block hH)).trans (cl_cells (cl_block hH)).1
          have ix := idx0 t
          gi_wp2_with fail
          refine hR.mono ?_
          rintro e W3 (⟨rfl, hJ3, hk4⟩ | ⟨rfl, hJx3⟩)
          · gi_wp2
            go_roundw
            case rel => exact ⟨1, by omega, rfl, ⟨_, hJ3, .inr (.inl ⟨rfl, hnext.out⟩)⟩, (hk3.trans (KeepS.of (by have := hk3.size; omega) (bel1 _))).trans hk4, hk4.held _ _ (((bel1 (w := wr) (.cells #[.int .i64 t.p.q, .int .i64 t.p.s, .slice t.p.a t.p.l.length t.p.cap, .int .i64 t.p.fr, .int .i64 t.p.b] 43)).block _ (lt_of_block hH)).trans hH)⟩
            case measure => simp [intOf]
          · gi_wp2
            refine bodyPost_ret (results_none rfl _ _ _) rfl ?_
            exact ⟨⟨_, rfl⟩, .inr ⟨_, by rw [hnext.out]; exact mayTo_pre1 HT.out, hJx3⟩⟩
        · skip
          obtain ⟨fn, tmps, assign, body, hy, hR⟩ := hY pre ⟨(t.nm, t.x), mem_sent HT.out⟩ (wr.alloc (.cells #[.int .i64 t.x.q, .int .i64 t.x.s, .slice t.x.a t.x.l.length t.x.cap, .int .i64 t.x.fr, .int .i64 t.x.b] 43)) (hJ _ _ _ hJs (grown_none (bel1 _))) (by have e := congrArg List.length hpre; rw [List.length_map, List.length_append, mayTo_length (by omega), List.length_singleton] at e; omega)
          have hnext : Hid ((pre ++ [(⟨(t.nm, t.x), mem_sent HT.out⟩ : NE ts)]).map vN = mayTo ts k ++ [(t.nm, t.p)] ++ [(t.nm, t.x)]) := by show _ = _; rw [List.map_append, hpre]; rfl
          have hpl : pre.length < 2 * ts.length := by have e := congrArg List.length hpre; rw [List.length_map, List.length_append, mayTo_length (by omega), List.length_singleton] at e; omega
          clear hpre
          dsimp only [encN] at hy
          clear hY
          have c0 : (wr.alloc (.cells #[.int .i64 t.x.q, .int .i64 t.x.s, .slice t.x.a t.x.l.length t.x.cap, .int .i64 t.x.fr, .int .i64 t.x.b] 43)).cell? ⟨B3, 0, none⟩ = some (.string t.nm) := ((bel1 (w := wr) (.cells #[.int .i64 t.x.q, .int .i64 t.x.s, .slice t.x.a t.x.l.length t.x.cap, .int .i64 t.x.fr, .int .i64 t.x.b] 43)).cell (p := ⟨B3, 0, none⟩) (lt_of_block hH)).trans (cl_cells (cl_block hH)).1
          have ix := idx1 t
          gi_wp2_with fail
          refine hR.mono ?_
          rintro e W3 (⟨rfl, hJ3, hk4⟩ | ⟨rfl, hJx3⟩)
          · gi_wp2
            go_roundw
            case rel => exact ⟨2, by omega, rfl, ⟨_, hJ3, .inr (.inr ⟨rfl, by rw [hnext.out, mayTo_succ HT.out]; simp [bothOf]⟩)⟩, (hk3.trans (KeepS.of (by have := hk3.size; omega) (bel1 _))).trans hk4, hk4.held _ _ (((bel1 (w := wr) (.cells #[.int .i64 t.x.q, .int .i64 t.x.s, .slice t.x.a t.x.l.length t.x.cap, .int .i64 t.x.fr, .int .i64 t.x.b] 43)).block _ (lt_of_block hH)).trans hH)⟩
            case measure => simp [intOf]
          · gi_wp2
            refine bodyPost_ret (results_none rfl _ _ _) rfl ?_
            exact ⟨⟨_, rfl⟩, .inr ⟨_, by rw [hnext.out]; obtain ⟨post, hp⟩ := mayTo_pre ts (k + 1); exact ⟨post, by rw [hp, mayTo_succ HT.out]; simp [bothOf]⟩, hJx3⟩⟩
        · gi_wp2
          go_roundw
          case rel => exact ⟨k + 1, by omega, by go_num, ⟨pre, hpre, hJs⟩, hk3⟩
          case measure => simp [intOf]; omega
    · obtain rfl : k = ts.length := by omega
      gi_wp2
      go_end0
      obtain ⟨pre, hpre, hJs⟩ := hJs
      exact ⟨⟨_, rfl⟩, .inl ⟨_, hpre.trans (mayTo_all ts), hJs⟩⟩
end Go.Proofs.YtfmdejilhbankaaGreat

namespace Go.Proofs.YtfmdejilhbankaaGreat
open Go.RowKit

theorem less_total : ∀ a b : List UInt8, (Op.bytesLess a b || a == b) = !Op.bytesLess b a
  | [], [] => by simp [Op.bytesLess]
  | [], _ :: _ => by simp [Op.bytesLess]
  | _ :: _, [] => by simp [Op.bytesLess]
  | x :: a, y :: b => by
    have ih := less_total a b
    rcases (show x < y ∨ x = y ∨ y < x by rcases Nat.lt_trichotomy x.toNat y.toNat with h | h | h; · exact .inl h
                                          · exact .inr (.inl (UInt8.toNat_inj.1 h))
                                          · exact .inr (.inr h)) with h | rfl | h
    · have h1 : ¬ y < x := by intro h2; exact absurd (UInt8.lt_iff_toNat_lt.1 h) (by have := UInt8.lt_iff_toNat_lt.1 h2; omega)
      have h2 : ¬ y = x := by intro e; subst e; exact h1 h
      simp [Op.bytesLess, h, h1, h2]
    · have h1 : ¬ x < x := by intro h2; have := UInt8.lt_iff_toNat_lt.1 h2; omega
      simp [Op.bytesLess, h1]
      simpa using ih
    · have h1 : ¬ x < y := by intro h2; exact absurd (UInt8.lt_iff_toNat_lt.1 h) (by have := UInt8.lt_iff_toNat_lt.1 h2; omega)
      have h2 : x ≠ y := by intro e; subst e; exact h1 h
      simp [Op.bytesLess, h, h1, h2]
/-- A name comes ahead of another one. -/
def ltN (a b : ByteArray) : Bool := Op.bytesLess a.toList b.toList
theorem ltN_le (a b : ByteArray) : (Op.bytesLess a.toList b.toList || a.toList == b.toList) = !ltN b a := less_total _ _

/-- What of a tube ProbeSkyOk looks at. -/
def key (t : Tb) : ByteArray × List Bx := (t.nm, t.l)
def keyB (k : ByteArray × List Bx) : Bool := nameB k.1 && decide (k.2.length ≤ 40) && k.2.all boxB
theorem keyB_key (t : Tb) : keyB (key t) = tubeB t := rfl
def nmAt (ks : List (ByteArray × List Bx)) (i : Nat) : ByteArray := (ks.getD i (⟨#[]⟩, [])).1
/-- The i-th comes behind the one ahead of it. -/
def ascAt (ks : List (ByteArray × List Bx)) (i : Nat) : Bool := decide (i = 0) || ltN (nmAt ks (i - 1)) (nmAt ks i)
def ascTo (ks : List (ByteArray × List Bx)) (k : Nat) : Bool := (List.range k).all (ascAt ks)
theorem ascTo_succ (ks : List (ByteArray × List Bx)) (k : Nat) : ascTo ks (k + 1) = (ascTo ks k && ascAt ks k) := by simp [ascTo, List.range_succ, List.all_append]
theorem ascTo_not {ks : List (ByteArray × List Bx)} {k n : Nat} (hk : k < n) (h : ascAt ks k = false) : ascTo ks n = false := by
  unfold ascTo; rw [List.all_eq_false]; exact ⟨k, by simpa using hk, by simp [h]⟩
/-- Tubes are ok together. -/
def skyB (ts : List Tb) : Bool := decide (ts.length ≤ 24) && ts.all tubeB && ascTo (ts.map key) ts.length
theorem nmAt_key {ts : List Tb} {i : Nat} {t : Tb} (h : ts[i]? = some t) : nmAt (ts.map key) i = t.nm := by
  unfold nmAt; simp [List.getD, List.getElem?_map, h, key]
theorem ascAt_key {ts : List Tb} {i : Nat} {s t : Tb} (hs : ts[i]? = some s) (ht : ts[i + 1]? = some t) : ascAt (ts.map key) (i + 1) = ltN s.nm t.nm := by
  unfold ascAt; rw [Nat.add_sub_cancel, nmAt_key hs, nmAt_key ht]; simp
end Go.Proofs.YtfmdejilhbankaaGreat

namespace Go.Proofs.YtfmdejilhbankaaGreat
open Go.RowKit

/-- Two who hold something come too near, whatever they fly; they have a number in common. -/
def nearH (t u : Hd) (now : Int) : Bool := meetsK t.p.key u.p.key now || (meetsK t.p.key u.x.key now || (meetsK t.x.key u.p.key now || meetsK t.x.key u.x.key now))
def sameH (t u : Hd) : Bool := (t.n == u.n) || ((t.n == u.sn) || ((t.sn == u.n) || ((t.sn == u.sn) && decide (0 < t.sn))))
abbrev KT := ByteArray × List Bx
def nkey (t : Hd) : KT := (t.nm, [])
/-- All numbers. -/
def nums (ts : List Hd) : List Int := ts.flatMap fun t => [t.n, t.sn]
/-- All but nought are given, each but once. -/
def numsB (la : Int) (l : List Int) : Bool := decide (l.Pairwise fun a b => a = 0 ∨ a ≠ b) && l.all fun x => decide (x = 0 ∨ x ≤ la)
theorem numsB_snoc (la : Int) (l : List Int) (x : Int) : numsB la (l ++ [x]) = (numsB la l && (decide (x = 0) || (decide (x ≤ la) && !decide (x ∈ l)))) := by
  unfold numsB
  rw [Bool.eq_iff_iff]
  simp only [Bool.and_eq_true, Bool.or_eq_true, decide_eq_true_eq, List.all_append, List.pairwise_append, List.all_cons, List.all_nil, Bool.not_eq_true', decide_eq_false_iff_not]
  constructor
  · rintro ⟨⟨h1, _, h2⟩, h3, h4, _⟩
    refine ⟨⟨h1, h3⟩, ?_⟩
    rcases h4 with h4 | h4
    · exact .inl h4
    · by_cases h0 : x = 0
      · exact .inl h0
      · refine .inr ⟨h4, fun hm => ?_⟩
        rcases h2 x hm x (by simp) with h | h
        · exact h0 h
        · exact h rfl
  · rintro ⟨⟨h1, h3⟩, h4⟩
    refine ⟨⟨h1, List.pairwise_singleton _ _, fun a ha b hb => ?_⟩, h3, ?_, trivial⟩
    · obtain rfl : b = x := by simpa using hb
      rcases h4 with rfl | ⟨_, h4⟩
      · omega
      · exact .inr fun e => h4 (e ▸ ha)
    · rcases h4 with h4 | h4
      · exact .inl h4
      · exact .inr h4.1
theorem numsB_pre {la : Int} {l m : List Int} (h : numsB la l = false) : numsB la (l ++ m) = false := by
  cases hh : numsB la (l ++ m) with
  | false => rfl
  | true =>
    rw [← h]
    unfold numsB at hh ⊢
    simp only [Bool.and_eq_true, decide_eq_true_eq, List.all_append, List.pairwise_append] at hh
    rw [decide_eq_true hh.1.1, hh.2.1]
    rfl

/-- Two tubes under two names come too near. -/
def clashK (a b : KT) : Bool := !decide (a.1 = b.1) && (keyB b && keyB a && meetL b.2 a.2)
def apartK (ks : List KT) : Bool := decide (ks.Pairwise fun a b => clashK a b = false)
theorem others_key (t : Tb) (ts : List Tb) : othersB t t.nm ts = (ts.map key).any fun o => clashK o (key t) := by
  unfold othersB
  rw [List.any_map]
  refine congrArg (fun f => ts.any f) (funext fun o => ?_)
  show _ = clashK (key o) (key t)
  rw [meetTB_some]
  rfl
theorem apartK_snoc (ks : List KT) (k : KT) : apartK (ks ++ [k]) = (apartK ks && !(ks.any fun o => clashK o k)) := by
  unfold apartK
  rw [Bool.eq_iff_iff]
  simp only [decide_eq_true_eq, Bool.and_eq_true, List.pairwise_append, Bool.not_eq_true', List.any_eq_false]
  constructor
  · rintro ⟨h1, _, h2⟩
    exact ⟨h1, fun o ho => by rw [h2 o ho k (by simp)]; simp⟩
  · rintro ⟨h1, h2⟩
    refine ⟨h1, List.pairwise_singleton _ _, fun a ha b hb => ?_⟩
    obtain rfl : b = k := by simpa using hb
    simpa using h2 a ha
theorem apartK_pre {ks ms : List KT} (h : apartK ks = false) : apartK (ks ++ ms) = false := by
  cases hh : apartK (ks ++ ms) with
  | false => rfl
  | true =>
    rw [← h]
    unfold apartK at hh ⊢
    simp only [decide_eq_true_eq, List.pairwise_append] at hh
    exact (decide_eq_true hh.1).symm
/-- The tube of whatever may be flown. -/
def tkey (now : Int) (x : NP) : KT := (cutNm (tubK x.1 x.2.key), cutBx (tubK x.1 x.2.key) now)

/-- As the program asks it. -/
def passB (la : Int) (ts : List Hd) : Bool := decide (ts.length ≤ 8) && (ascTo (ts.map nkey) ts.length && (ts.all heldB && (numsB la (nums ts) && (decide (0 ≤ la) && decide (la ≤ 1000000)))))
def bookB (la now : Int) (ts : List Hd) : Bool := decide (0 ≤ now) && (decide (now ≤ 10000) && (passB la ts && apartK ((mayL ts).map (tkey now))))
/-- As the specification asks it. -/
def rowB (la now : Int) (ts : List Hd) (i : Nat) (t : Hd) : Bool := heldB t && (decide (t.n ≤ la) && (decide (t.sn ≤ la) && (ascAt (ts.map nkey) i && (ts.take i).all fun u => !(sameH u t || nearH u t now))))
def rowsTo (la now : Int) (ts : List Hd) (k : Nat) : Bool := (List.range k).all fun i => match ts[i]? with | some t => rowB la now ts i t | none => true
def bookS (la now : Int) (ts : List Hd) : Bool := decide (ts.length ≤ 8) && (inB now 0 10000 && (inB la 0 1000000 && rowsTo la now ts ts.length))
theorem rowsTo_succ {la now : Int} {ts : List Hd} {k : Nat} {t : Hd} (h : ts[k]? = some t) : rowsTo la now ts (k + 1) = (rowsTo la now ts k && rowB la now ts k t) := by
  simp [rowsTo, List.range_succ, List.all_append, h]
theorem rowsTo_not {la now : Int} {ts : List Hd} {k : Nat} {t : Hd} (h : ts[k]? = some t) (hr : rowB la now ts k t = false) : rowsTo la now ts ts.length = false := by
  unfold rowsTo
  rw [List.all_eq_false]
  exact ⟨k, by simpa using (List.getElem?_eq_some_iff.1 h).1, by simp [h, hr]⟩

theorem less_irrefl : ∀ a : List UInt8, Op.bytesLess a a = false
  | [] => rfl
  | x :: a => by simp [Op.bytesLess, less_irrefl a]
theorem less_trans : ∀ a b c : List UInt8, Op.bytesLess a b = true → Op.bytesLess b c = true → Op.bytesLess a c = true
  | _, [], _ => fun h _ => by simp [Op.bytesLess] at h
  | [], _ :: _, [] => fun _ h => by simp [Op.bytesLess] at h
  | [], _ :: _, _ :: _ => fun _ _ => by simp [Op.bytesLess]
  | _ :: _, _ :: _, [] => fun _ h => by simp [Op.bytesLess] at h
  | x :: a, y :: b, z :: c => fun h k => by
    have ih := less_trans a b c
    simp only [Op.bytesLess, Bool.or_eq_true, Bool.and_eq_true, decide_eq_true_eq, beq_iff_eq] at h k ⊢
    rcases h with h | ⟨rfl, h⟩
    · rcases k with k | ⟨rfl, k⟩
      · exact .inl (UInt8.lt_trans h k)
      · exact .inl h
    · rcases k with k | ⟨rfl, k⟩
      · exact .inl k
      · exact .inr ⟨rfl, ih h k⟩
theorem asc_lt {ks : List KT} {n : Nat} (h : ∀ i, i < n → ascAt ks i = true) : ∀ j, j < n → ∀ i, i < j → ltN (nmAt ks i) (nmAt ks j) = true
  | 0, _, i, hi => by omega
  | j + 1, hj, i, hi => by
    have h1 : ltN (nmAt ks j) (nmAt ks (j + 1)) = true := by
      have := h (j + 1) hj
      simpa [ascAt] using this
    rcases Nat.lt_or_ge i j with hij | hij
    · exact less_trans _ _ _ (asc_lt h j (by omega) i hij) h1
    · obtain rfl : i = j := by omega
      exact h1
theorem nmAt_n {ts : List Hd} {i : Nat} {t : Hd} (h : ts[i]? = some t) : nmAt (ts.map nkey) i = t.nm := by
  unfold nmAt; simp [List.getD, List.getElem?_map, h, nkey]
theorem asc_names {ts : List Hd} (h : ∀ i, i < ts.length → ascAt (ts.map nkey) i = true) : ts.Pairwise fun a b => a.nm ≠ b.nm := by
  rw [List.pairwise_iff_getElem]
  intro i j hi hj hij e
  have h1 := asc_lt h j hj i hij
  rw [nmAt_n (List.getElem?_eq_getElem hi), nmAt_n (List.getElem?_eq_getElem hj), e] at h1
  rw [ltN, less_irrefl] at h1
  cases h1
theorem pw_take {α : Type} (R : α → α → Prop) (l : List α) : (∀ i t, l[i]? = some t → ∀ u ∈ l.take i, R u t) ↔ l.Pairwise R := by
  rw [List.pairwise_iff_getElem]
  constructor
  · intro h i j hi hj hij
    exact h j _ (List.getElem?_eq_getElem hj) _ (List.mem_take_iff_getElem.2 ⟨i, by omega, rfl⟩)
  · intro h i t ht u hu
    obtain ⟨j, hj, rfl⟩ := List.mem_take_iff_getElem.1 hu
    obtain ⟨hi, rfl⟩ := List.getElem?_eq_some_iff.1 ht
    exact h j i (by omega) hi (by omega)
theorem rows_iff (la now : Int) (ts : List Hd) : rowsTo la now ts ts.length = true ↔ (∀ t ∈ ts, heldB t = true ∧ t.n ≤ la ∧ t.sn ≤ la) ∧ (∀ i, i < ts.length → ascAt (ts.map nkey) i = true) ∧ (ts.Pairwise fun u t => sameH u t = false) ∧ (ts.Pairwise fun u t => nearH u t now = false) := by
  rw [← pw_take, ← pw_take]
  unfold rowsTo
  rw [List.all_eq_true]
  have e : (∀ i ∈ List.range ts.length, (match ts[i]? with | some t => rowB la now ts i t | none => true) = true) ↔ ∀ i t, ts[i]? = some t → rowB la now ts i t = true := by
    constructor
    · intro h i t ht
      have := h i (by simpa using (List.getElem?_eq_some_iff.1 ht).1)
      rw [ht] at this
      exact this
    · intro h i hi
      cases ht : ts[i]? with
      | none => rfl
      | some t => exact h i t ht
  rw [e]
  have e2 : ∀ i t, rowB la now ts i t = true ↔ (heldB t = true ∧ t.n ≤ la ∧ t.sn ≤ la) ∧ ascAt (ts.map nkey) i = true ∧ (∀ u ∈ ts.take i, sameH u t = false) ∧ (∀ u ∈ ts.take i, nearH u t now = false) := fun i t => by
    unfold rowB
    simp only [Bool.and_eq_true, decide_eq_true_eq, List.all_eq_true, Bool.not_eq_true', Bool.or_eq_false_iff]
    constructor
    · rintro ⟨h1, h2, h3, h4, h5⟩
      exact ⟨⟨h1, h2, h3⟩, h4, fun u hu => (h5 u hu).1, fun u hu => (h5 u hu).2⟩
    · rintro ⟨⟨h1, h2, h3⟩, h4, h5, h6⟩
      exact ⟨h1, h2, h3, h4, fun u hu => ⟨h5 u hu, h6 u hu⟩⟩
  constructor
  · intro h
    refine ⟨fun t ht => ?_, fun i hi => ?_, fun i t ht => ?_, fun i t ht => ?_⟩
    · obtain ⟨i, hi⟩ := List.mem_iff_getElem?.1 ht
      exact ((e2 i t).1 (h i t hi)).1
    · exact ((e2 i _).1 (h i _ (List.getElem?_eq_getElem hi))).2.1
    · exact ((e2 i t).1 (h i t ht)).2.2.1
    · exact ((e2 i t).1 (h i t ht)).2.2.2
  · rintro ⟨h1, h2, h3, h4⟩ i t ht
    exact (e2 i t).2 ⟨h1 t (List.mem_of_getElem? ht), h2 i (List.getElem?_eq_some_iff.1 ht).1, h3 i t ht, h4 i t ht⟩

theorem held_nums {t : Hd} (h : heldB t = true) : nameB t.nm = true ∧ 1 ≤ t.n ∧ (t.sn = 0 ∨ t.n < t.sn) := by
  unfold heldB sentOkB at h
  simp only [Bool.and_eq_true, decide_eq_true_eq] at h
  refine ⟨h.1.1.1, h.1.1.2, ?_⟩
  by_cases h0 : t.sn = 0
  · exact .inl h0
  · have h2 := h.2
    rw [if_neg h0] at h2
    simp only [Bool.and_eq_true, decide_eq_true_eq] at h2
    exact .inr h2.1
theorem nums_iff {la : Int} {ts : List Hd} (hla : 0 ≤ la) (hh : ∀ t ∈ ts, heldB t = true) : numsB la (nums ts) = true ↔ (∀ t ∈ ts, t.n ≤ la ∧ t.sn ≤ la) ∧ ts.Pairwise fun u t => sameH u t = false := by
  unfold numsB nums
  simp only [Bool.and_eq_true, decide_eq_true_eq, List.pairwise_flatMap, List.all_eq_true, List.mem_flatMap]
  have e : ∀ a b : Hd, heldB a = true → heldB b = true → ((∀ x ∈ [a.n, a.sn], ∀ y ∈ [b.n, b.sn], x = 0 ∨ x ≠ y) ↔ sameH a b = false) := fun a b ha hb => by
    obtain ⟨_, h1, h2⟩ := held_nums ha
    obtain ⟨_, h3, h4⟩ := held_nums hb
    unfold sameH
    simp only [List.mem_cons, List.not_mem_nil, or_false, forall_eq_or_imp, forall_eq, Bool.or_eq_false_iff, Bool.and_eq_false_iff, beq_eq_false_iff_ne, decide_eq_false_iff_not]
    omega
  constructor
  · rintro ⟨⟨_, h2⟩, h3⟩
    refine ⟨fun t ht => ?_, h2.imp_of_mem fun ha hb h => (e _ _ (hh _ ha) (hh _ hb)).1 h⟩
    obtain ⟨_, h1, h4⟩ := held_nums (hh t ht)
    have a := h3 t.n ⟨t, ht, by simp⟩
    have b := h3 t.sn ⟨t, ht, by simp⟩
    omega
  · rintro ⟨h1, h2⟩
    refine ⟨⟨fun t ht => ?_, h2.imp_of_mem fun ha hb h => (e _ _ (hh _ ha) (hh _ hb)).2 h⟩, fun x hx => ?_⟩
    · obtain ⟨_, h1, h4⟩ := held_nums (hh t ht)
      simp only [List.pairwise_cons, List.mem_cons, List.not_mem_nil, or_false, forall_eq, List.Pairwise.nil, and_true]
      refine ⟨by omega, fun _ h => by cases h⟩
    · obtain ⟨t, ht, hx⟩ := hx
      have := h1 t ht
      simp only [List.mem_cons, List.not_mem_nil, or_false] at hx
      omega

theorem okK_cut {nm : ByteArray} (h : nameB nm = true) {k : PKey} {now : Int} (hk : okK k now = true) : cutNm (tubK nm k) = nm := by
  have h1 : tubeB (tubK nm k) = true := by
    rw [← okK_name h k now none 0 0 0] at hk
    cases e : tubeB (tubK nm k) with
    | true => rfl
    | false =>
      have : nameB (cutNm (tubK nm k)) = true := by
        unfold tubeB at hk
        simp only [Bool.and_eq_true] at hk
        exact hk.1.1
      unfold cutNm at this
      rw [e] at this
      simp only [Bool.false_eq_true, if_false] at this
      exact absurd this (by decide +kernel)
  unfold cutNm
  rw [h1]
  rfl
set_option maxHeartbeats 2000000 in
theorem clash_np {x y : NP} {now : Int} (hx : nameB x.1 = true) (hy : nameB y.1 = true) : clashK (tkey now x) (tkey now y) = (!decide (x.1 = y.1) && meetsK x.2.key y.2.key now) := by
  have ex : keyB (tkey now x) = okK x.2.key now := okK_name hx x.2.key now none 0 0 0
  have ey : keyB (tkey now y) = okK y.2.key now := okK_name hy y.2.key now none 0 0 0
  unfold clashK
  rw [ex, ey, meetsK_comm]
  unfold meetsK
  cases h1 : okK y.2.key now with
  | false => simp
  | true =>
    cases h2 : okK x.2.key now with
    | false => simp
    | true =>
      unfold tkey
      simp only [okK_cut hx h2, okK_cut hy h1, Bool.true_and]
      rw [show cutBx (tubK y.1 y.2.key) now = cutBx (tubK nmA y.2.key) now from cutBx_name hy nameA _ _ _ _ _ _, show cutBx (tubK x.1 x.2.key) now = cutBx (tubK nmA x.2.key) now from cutBx_name hx nameA _ _ _ _ _ _]
theorem clash_at {nx ny : ByteArray} (px py : Pt) (now : Int) (hx : nameB nx = true) (hy : nameB ny = true) : clashK (tkey now (nx, px)) (tkey now (ny, py)) = (!decide (nx = ny) && meetsK px.key py.key now) := clash_np (x := (nx, px)) (y := (ny, py)) hx hy
set_option maxHeartbeats 2000000 in
theorem apart_iff {now : Int} {ts : List Hd} (hh : ∀ t ∈ ts, heldB t = true) (hn : ts.Pairwise fun a b => a.nm ≠ b.nm) : apartK ((mayL ts).map (tkey now)) = true ↔ ts.Pairwise fun u t => nearH u t now = false := by
  unfold apartK mayL
  simp only [decide_eq_true_eq, List.pairwise_map, List.pairwise_flatMap]
  have e : ∀ a b : Hd, heldB a = true → heldB b = true → a.nm ≠ b.nm → ((∀ x ∈ bothOf a, ∀ y ∈ bothOf b, clashK (tkey now x) (tkey now y) = false) ↔ nearH a b now = false) := fun a b ha hb hab => by
    have h1 := (held_nums ha).1
    have h2 := (held_nums hb).1
    unfold nearH bothOf
    simp only [List.mem_cons, List.not_mem_nil, or_false, forall_eq_or_imp, forall_eq, Bool.or_eq_false_iff]
    rw [clash_at a.p b.p now h1 h2, clash_at a.p b.x now h1 h2, clash_at a.x b.p now h1 h2, clash_at a.x b.x now h1 h2]
    simp only [decide_eq_false hab, Bool.not_false, Bool.true_and]
    constructor
    · rintro ⟨⟨h1, h2⟩, h3, h4⟩; exact ⟨h1, h2, h3, h4⟩
    · rintro ⟨h1, h2, h3, h4⟩; exact ⟨⟨h1, h2⟩, h3, h4⟩
  constructor
  · rintro ⟨_, h⟩
    exact (h.and hn).imp_of_mem fun ha hb h => (e _ _ (hh _ ha) (hh _ hb) h.2).1 h.1
  · intro h
    refine ⟨fun t ht => ?_, (h.and hn).imp_of_mem fun ha hb h => (e _ _ (hh _ ha) (hh _ hb) h.2).2 h.1⟩
    have h1 := (held_nums (hh t ht)).1
    unfold bothOf
    simp only [List.pairwise_cons, List.mem_cons, List.not_mem_nil, or_false, forall_eq, List.Pairwise.nil, and_true]
    refine ⟨?_, fun _ h => by cases h⟩
    rw [clash_at t.p t.x now h1 h1]
    simp
theorem book_one (la now : Int) (ts : List Hd) : bookS la now ts = bookB la now ts := by
  rw [Bool.eq_iff_iff]
  unfold bookS bookB passB inB
  simp only [Bool.and_eq_true, decide_eq_true_eq, List.all_eq_true, rows_iff]
  have ea : ascTo (ts.map nkey) ts.length = true ↔ ∀ i, i < ts.length → ascAt (ts.map nkey) i = true := by
    unfold ascTo
    rw [List.all_eq_true]
    simp only [List.mem_range]
  rw [ea]
  constructor
  · rintro ⟨h8, hn, hl, h1, h2, h3, h4⟩
    have hh : ∀ t ∈ ts, heldB t = true := fun t ht => (h1 t ht).1
    exact ⟨hn.1, hn.2, ⟨h8, h2, hh, (nums_iff hl.1 hh).2 ⟨fun t ht => (h1 t ht).2, h3⟩, hl.1, hl.2⟩, (apart_iff hh (asc_names h2)).2 h4⟩
  · rintro ⟨n1, n2, ⟨h8, h2, hh, h3, l1, l2⟩, h4⟩
    have h5 := (nums_iff l1 hh).1 h3
    exact ⟨h8, ⟨n1, n2⟩, ⟨l1, l2⟩, fun t ht => ⟨hh t ht, h5.1 t ht⟩, h2, h5.2, (apart_iff hh (asc_names h2)).1 h4⟩
end Go.Proofs.YtfmdejilhbankaaGreat

namespace Go.Proofs.YtfmdejilhbankaaGreat
open Go.RowKit

theorem meetsS_val (p x : Pt) (now : Int) (v : Bool) (w : World) (hpl : p.l.length ≤ 1048576) (hxl : x.l.length ≤ 1048576) (hp : PtAt w p) (hx : PtAt w x) (hv : meetsK p.key x.key now = v) :
    Calls Tryz.prog 51 #[p.val, x.val, .int .i64 now] w fun e w' => e = .returned (.bool v) ∧ Below w.heap.size w w' := by
  rw [← hv]; exact meetsS_any p x now w hpl hxl hp hx

set_option maxHeartbeats 4000000 in
set_option maxRecDepth 20000 in
theorem nearS_any (t u : Hd) (now : Int) (v : Bool) (w : World) (htp : t.p.l.length ≤ 1048576) (htx : t.x.l.length ≤ 1048576) (hup : u.p.l.length ≤ 1048576) (hux : u.x.l.length ≤ 1048576) (ht : HdAt w t) (hu : HdAt w u) (hv : nearH t u now = v) :
    Calls Tryz.prog 24 #[t.val, u.val, .int .i64 now] w fun e w' => e = .returned (.bool v) ∧ Below w.heap.size w w' := by
  unfold nearH at hv
  have B := bel2 (w := w) (.cells #[.string t.nm, .int .i64 t.n, .int .i64 t.p.q, .int .i64 t.p.s, .slice t.p.a t.p.l.length t.p.cap, .int .i64 t.p.fr, .int .i64 t.p.b, .int .i64 t.sn, .int .i64 t.x.q, .int .i64 t.x.s, .slice t.x.a t.x.l.length t.x.cap, .int .i64 t.x.fr, .int .i64 t.x.b] 52) (.cells #[.string u.nm, .int .i64 u.n, .int .i64 u.p.q, .int .i64 u.p.s, .slice u.p.a u.p.l.length u.p.cap, .int .i64 u.p.fr, .int .i64 u.p.b, .int .i64 u.sn, .int .i64 u.x.q, .int .i64 u.x.s, .slice u.x.a u.x.l.length u.x.cap, .int .i64 u.x.fr, .int .i64 u.x.b] 52)
  have X := (HdIn.new w t 52).keep (bel1 (.cells #[.string u.nm, .int .i64 u.n, .int .i64 u.p.q, .int .i64 u.p.s, .slice u.p.a u.p.l.length u.p.cap, .int .i64 u.p.fr, .int .i64 u.p.b, .int .i64 u.sn, .int .i64 u.x.q, .int .i64 u.x.s, .slice u.x.a u.x.l.length u.x.cap, .int .i64 u.x.fr, .int .i64 u.x.b] 52)) (HdIn.new w t 52).lt
  have Y := HdIn.new (w.alloc (.cells #[.string t.nm, .int .i64 t.n, .int .i64 t.p.q, .int .i64 t.p.s, .slice t.p.a t.p.l.length t.p.cap, .int .i64 t.p.fr, .int .i64 t.p.b, .int .i64 t.sn, .int .i64 t.x.q, .int .i64 t.x.s, .slice t.x.a t.x.l.length t.x.cap, .int .i64 t.x.fr, .int .i64 t.x.b] 52)) u 52
  rw [World.size_alloc] at Y
  obtain ⟨c0, c1, c2, c3, c4, c5, c6, c7, c8, c9, c10, c11, c12⟩ := cl_cells X.cs
  obtain ⟨d0, d1, d2, d3, d4, d5, d6, d7, d8, d9, d10, d11, d12⟩ := cl_cells Y.cs
  simp only [Nat.zero_add] at c0 c1 c2 c3 c4 c5 c6 c7 c8 c9 c10 c11 c12 d0 d1 d2 d3 d4 d5 d6 d7 d8 d9 d10 d11 d12
  go_enter Tryz.func24, Tryz.ntmps24
  cases hm : meetsK t.p.key u.p.key now with
  | true =>
    obtain rfl : true = v := by rw [← hv, hm] <;> simp
    clear hv
    go_wp2_with (go_at_call 51; refine (meetsS_val t.p u.p now true _ htp hup (ht.p.below B ht.p.lt) (hu.p.below B hu.p.lt) hm).mono ?_; rintro e wn ⟨rfl, hbn⟩)
    go_ret
    exact ⟨rfl, B.trans (hbn.mono B.size)⟩
  | false =>
    rw [hm, Bool.false_or] at hv
    go_wp2_with fail
    refine (meetsS_val t.p u.p now false _ htp hup (ht.p.below B ht.p.lt) (hu.p.below B hu.p.lt) hm).mono ?_
    rintro e wn ⟨rfl, hbn⟩
    replace B := B.trans (hbn.mono B.size)
    replace X := X.keep hbn X.lt
    replace Y := Y.keep hbn Y.lt
    clear c0 c1 c2 c3 c4 c5 c6 c7 c8 c9 c10 c11 c12 d0 d1 d2 d3 d4 d5 d6 d7 d8 d9 d10 d11 d12 hbn hm
    obtain ⟨c0, c1, c2, c3, c4, c5, c6, c7, c8, c9, c10, c11, c12⟩ := cl_cells X.cs
    obtain ⟨d0, d1, d2, d3, d4, d5, d6, d7, d8, d9, d10, d11, d12⟩ := cl_cells Y.cs
    simp only [Nat.zero_add] at c0 c1 c2 c3 c4 c5 c6 c7 c8 c9 c10 c11 c12 d0 d1 d2 d3 d4 d5 d6 d7 d8 d9 d10 d11 d12
    cases hm : meetsK t.p.key u.x.key now with
    | true =>
      obtain rfl : true = v := by rw [← hv, hm] <;> simp
      clear hv
      go_wp2_with (go_at_call 51; refine (meetsS_val t.p u.x now true _ htp hux (ht.p.below B ht.p.lt) (hu.x.below B hu.x.lt) hm).mono ?_; rintro e wn ⟨rfl, hbn⟩)
      go_ret
      exact ⟨rfl, B.trans (hbn.mono B.size)⟩
    | false =>
      rw [hm, Bool.false_or] at hv
      go_wp2_with fail
      refine (meetsS_val t.p u.x now false _ htp hux (ht.p.below B ht.p.lt) (hu.x.below B hu.x.lt) hm).mono ?_
      rintro e wn ⟨rfl, hbn⟩
      replace B := B.trans (hbn.mono B.size)
      replace X := X.keep hbn X.lt
      replace Y := Y.keep hbn Y.lt
      clear c0 c1 c2 c3 c4 c5 c6 c7 c8 c9 c10 c11 c12 d0 d1 d2 d3 d4 d5 d6 d7 d8 d9 d10 d11 d12 hbn hm
      obtain ⟨c0, c1, c2, c3, c4, c5, c6, c7, c8, c9, c10, c11, c12⟩ := cl_cells X.cs
      obtain ⟨d0, d1, d2, d3, d4, d5, d6, d7, d8, d9, d10, d11, d12⟩ := cl_cells Y.cs
      simp only [Nat.zero_add] at c0 c1 c2 c3 c4 c5 c6 c7 c8 c9 c10 c11 c12 d0 d1 d2 d3 d4 d5 d6 d7 d8 d9 d10 d11 d12
      cases hm : meetsK t.x.key u.p.key now with
      | true =>
        obtain rfl : true = v := by rw [← hv, hm] <;> simp
        clear hv
        go_wp2_with (go_at_call 51; refine (meetsS_val t.x u.p now true _ htx hup (ht.x.below B ht.x.lt) (hu.p.below B hu.p.lt) hm).mono ?_; rintro e wn ⟨rfl, hbn⟩)
        go_ret
        exact ⟨rfl, B.trans (hbn.mono B.size)⟩
      | false =>
        rw [hm, Bool.false_or] at hv
        go_wp2_with fail
        refine (meetsS_val t.x u.p now false _ htx hup (ht.x.below B ht.x.lt) (hu.p.below B hu.p.lt) hm).mono ?_
        rintro e wn ⟨rfl, hbn⟩
        replace B := B.trans (hbn.mono B.size)
        replace X := X.keep hbn X.lt
        replace Y := Y.keep hbn Y.lt
        clear c0 c1 c2 c3 c4 c5 c6 c7 c8 c9 c10 c11 c12 d0 d1 d2 d3 d4 d5 d6 d7 d8 d9 d10 d11 d12 hbn hm
        obtain ⟨c0, c1, c2, c3, c4, c5, c6, c7, c8, c9, c10, c11, c12⟩ := cl_cells X.cs
        obtain ⟨d0, d1, d2, d3, d4, d5, d6, d7, d8, d9, d10, d11, d12⟩ := cl_cells Y.cs
        simp only [Nat.zero_add] at c0 c1 c2 c3 c4 c5 c6 c7 c8 c9 c10 c11 c12 d0 d1 d2 d3 d4 d5 d6 d7 d8 d9 d10 d11 d12
        cases hm : meetsK t.x.key u.x.key now with
        | true =>
          obtain rfl : true = v := by rw [← hv, hm] <;> simp
          clear hv
          go_wp2_with (go_at_call 51; refine (meetsS_val t.x u.x now true _ htx hux (ht.x.below B ht.x.lt) (hu.x.below B hu.x.lt) hm).mono ?_; rintro e wn ⟨rfl, hbn⟩)
          go_ret
          exact ⟨rfl, B.trans (hbn.mono B.size)⟩
        | false =>
          obtain rfl : false = v := by rw [← hv, hm] <;> rfl
          clear hv
          go_wp2_with (go_at_call 51; refine (meetsS_val t.x u.x now false _ htx hux (ht.x.below B ht.x.lt) (hu.x.below B hu.x.lt) hm).mono ?_; rintro e wn ⟨rfl, hbn⟩)
          go_ret
          exact ⟨rfl, B.trans (hbn.mono B.size)⟩

set_option maxRecDepth 20000 in
theorem sameS_any (t u : Hd) (v : Bool) (w : World) (hv : sameH t u = v) :
    Calls Tryz.prog 23 #[t.val, u.val] w fun e w' => e = .returned (.bool v) ∧ Below w.heap.size w w' := by
  unfold sameH at hv
  have B := bel2 (w := w) (.cells #[.string t.nm, .int .i64 t.n, .int .i64 t.p.q, .int .i64 t.p.s, .slice t.p.a t.p.l.length t.p.cap, .int .i64 t.p.fr, .int .i64 t.p.b, .int .i64 t.sn, .int .i64 t.x.q, .int .i64 t.x.s, .slice t.x.a t.x.l.length t.x.cap, .int .i64 t.x.fr, .int .i64 t.x.b] 52) (.cells #[.string u.nm, .int .i64 u.n, .int .i64 u.p.q, .int .i64 u.p.s, .slice u.p.a u.p.l.length u.p.cap, .int .i64 u.p.fr, .int .i64 u.p.b, .int .i64 u.sn, .int .i64 u.x.q, .int .i64 u.x.s, .slice u.x.a u.x.l.length u.x.cap, .int .i64 u.x.fr, .int .i64 u.x.b] 52)
  cases h1 : (t.n == u.n) with
  | true =>
    obtain rfl : true = v := by rw [← hv, h1]; rfl
    clear hv
    go_enter Tryz.func23, Tryz.ntmps23
    go_wp2
    go_ret
    exact ⟨rfl, B⟩
  | false =>
    rw [h1, Bool.false_or] at hv
    cases h2 : (t.n == u.sn) with
    | true =>
      obtain rfl : true = v := by rw [← hv, h2]; rfl
      clear hv
      go_enter Tryz.func23, Tryz.ntmps23
      go_wp2
      go_ret
      exact ⟨rfl, B⟩
    | false =>
      rw [h2, Bool.false_or] at hv
      cases h3 : (t.sn == u.n) with
      | true =>
        obtain rfl : true = v := by rw [← hv, h3]; rfl
        clear hv
        go_enter Tryz.func23, Tryz.ntmps23
        go_wp2
        go_ret
        exact ⟨rfl, B⟩
      | false =>
        rw [h3, Bool.false_or] at hv
        cases h4 : (t.sn == u.sn) with
        | false =>
          obtain rfl : false = v := by rw [← hv, h4]; rfl
          clear hv
          go_enter Tryz.func23, Tryz.ntmps23
          go_wp2
          go_ret
          exact ⟨rfl, B⟩
        | true =>
          rw [h4, Bool.true_and] at hv
          by_cases h5 : 0 < t.sn
          · obtain rfl : true = v := by rw [← hv] <;> simp [h5]
            clear hv
            go_enter Tryz.func23, Tryz.ntmps23
            go_wp2
            go_ret
            exact ⟨rfl, B⟩
          · obtain rfl : false = v := by rw [← hv] <;> simp [h5]
            clear hv
            go_enter Tryz.func23, Tryz.ntmps23
            go_wp2
            go_ret
            exact ⟨rfl, B⟩
end Go.Proofs.YtfmdejilhbankaaGreat

namespace Go.Proofs.YtfmdejilhbankaaGreat
open Go.RowKit

theorem all_takeH (ts : List Hd) (f : Hd → Bool) {k : Nat} {t : Hd} (h : ts[k]? = some t) : (ts.take (k + 1)).all f = ((ts.take k).all f && f t) := by
  rw [List.take_add_one, h]; simp [List.all_append]
theorem all_missH {ts : List Hd} {f : Hd → Bool} {k : Nat} {t : Hd} (h : ts[k]? = some t) (hf : f t = false) : ts.all f = false := by
  rw [List.all_eq_false]; exact ⟨t, List.mem_of_getElem? h, by simp [hf]⟩
set_option maxHeartbeats 2000000 in
theorem holders_any (hI : SpansSaid) (la : Int) (a : Option Addr) (b o cap : Nat) (ts : List Hd) (v : Bool) (w : World) (hl : ts.length ≤ 1048576) (hsm : ∀ t ∈ ts, t.p.l.length ≤ 1048576 ∧ t.x.l.length ≤ 1048576) (hs : HdsAt w a b o ts) (hv : ts.all heldB = v) :
    Calls Tryz.prog 28 #[.agg #[.int .i64 la, .slice a ts.length cap]] w fun e w' => e = .returned (.bool v) ∧ Below w.heap.size w w' := by
  subst hv
  have B0 := bel1 (w := w) (.cells #[.int .i64 la, .slice a ts.length cap] 29)
  go_enter Tryz.func28, Tryz.ntmps28
  go_wp2
  go_loopw [8] (fun v wr => ∃ k : Nat, k ≤ ts.length ∧ v = .int .i64 k ∧ Below w.heap.size w wr ∧ (ts.take k).all heldB = true) (fun v _ => ts.length - (intOf v).toNat)
  case atStart => exact ⟨0, Nat.zero_le _, rfl, B0, rfl⟩
  case round =>
    obtain ⟨k, hk, rfl, hb, hall⟩ := hrel
    have HA : Hid ((ts.take k).all heldB = true) := hall
    clear hall
    by_cases hlt : k < ts.length
    · obtain ⟨t, htk⟩ : ∃ t, ts[k]? = some t := ⟨ts[k], List.getElem?_eq_getElem hlt⟩
      have hne : ts ≠ [] := by intro e; subst e; simp at hlt
      obtain rfl := hs.here hne
      have hsb := hs.below hb
      obtain ⟨d0, d1, d2, d3, d4, d5, d6, d7, d8, d9, d10, d11, d12⟩ := cl_cells (hsb.cell _ _ htk)
      have k0 : (0 : Int) ≤ (k : Int) := by omega
      have k1 : (k : Int) < (ts.length : Int) := by omega
      have hm := hsm t (List.mem_of_getElem? htk)
      have ht := (hsb.each t (List.mem_of_getElem? htk)).below (bel1 (.cells #[.string t.nm, .int .i64 t.n, .int .i64 t.p.q, .int .i64 t.p.s, .slice t.p.a t.p.l.length t.p.cap, .int .i64 t.p.fr, .int .i64 t.p.b, .int .i64 t.sn, .int .i64 t.x.q, .int .i64 t.x.s, .slice t.x.a t.x.l.length t.x.cap, .int .i64 t.x.fr, .int .i64 t.x.b] 52))
      have HT : Hid (ts[k]? = some t) := htk
      have B1 := hb.alloc hb.size (.cells #[.string t.nm, .int .i64 t.n, .int .i64 t.p.q, .int .i64 t.p.s, .slice t.p.a t.p.l.length t.p.cap, .int .i64 t.p.fr, .int .i64 t.p.b, .int .i64 t.sn, .int .i64 t.x.q, .int .i64 t.x.s, .slice t.x.a t.x.l.length t.x.cap, .int .i64 t.x.fr, .int .i64 t.x.b] 52)
      clear htk
      cases hh : heldB t with
      | true =>
        have HB : Hid (heldB t = true) := hh
        clear hh
        go_wp2_with fail
        refine (heldOkI_any hI t true _ hm.1 hm.2 ht HB.out).mono ?_
        rintro e w2 ⟨rfl, hb2⟩
        clear d0 d1 d2 d3 d4 d5 d6 d7 d8 d9 d10 d11 d12
        go_wp2
        go_roundw
        case rel => exact ⟨k + 1, by omega, by go_num, B1.trans (hb2.mono B1.size), by rw [all_takeH ts heldB HT.out, HA.out, HB.out]; rfl⟩
        case measure => simp [intOf]; omega
      | false =>
        have HB : Hid (heldB t = false) := hh
        clear hh
        go_wp2_with fail
        refine (heldOkI_any hI t false _ hm.1 hm.2 ht HB.out).mono ?_
        rintro e w2 ⟨rfl, hb2⟩
        clear d0 d1 d2 d3 d4 d5 d6 d7 d8 d9 d10 d11 d12
        go_wp2
        go_ret
        exact ⟨by rw [all_missH HT.out HB.out]; rfl, B1.trans (hb2.mono B1.size)⟩
    · obtain rfl : k = ts.length := by omega
      go_wp2
      go_ret
      have e1 := HA.out
      rw [List.take_length] at e1
      exact ⟨by rw [e1]; rfl, hb⟩

end Go.Proofs.YtfmdejilhbankaaGreat

namespace Go.Proofs.YtfmdejilhbankaaGreat
open Go.RowKit

theorem ascAt_n {ts : List Hd} {i : Nat} {s t : Hd} (hs : ts[i]? = some s) (ht : ts[i + 1]? = some t) : ascAt (ts.map nkey) (i + 1) = ltN s.nm t.nm := by
  unfold ascAt; rw [Nat.add_sub_cancel, nmAt_n hs, nmAt_n ht]; simp
theorem nameOfH_any (t : Hd) (w : World) : Calls Tryz.prog 54 #[.agg #[.string t.nm, .int .i64 t.n, .int .i64 t.p.q, .int .i64 t.p.s, .slice t.p.a t.p.l.length t.p.cap, .int .i64 t.p.fr, .int .i64 t.p.b, .int .i64 t.sn, .int .i64 t.x.q, .int .i64 t.x.s, .slice t.x.a t.x.l.length t.x.cap, .int .i64 t.x.fr, .int .i64 t.x.b]] w fun e w' => e = .returned (.string t.nm) ∧ Below w.heap.size w w' := by
  go_enter Tryz.func54, Tryz.ntmps54
  go_wp2
  go_ret
  exact ⟨rfl, bel1 _⟩

set_option maxHeartbeats 4000000 in
set_option maxRecDepth 20000 in
theorem ascendByH_any (a : Option Addr) (b o cap : Nat) (ts : List Hd) (w : World) (hl : ts.length ≤ 1048576) (hs : HdsAt w a b o ts) :
    Calls Tryz.prog 53 #[.slice a ts.length cap, .func (.func 54) #[] #[]] w fun e w' => e = .returned (.bool (ascTo (ts.map nkey) ts.length)) ∧ Below w.heap.size w w' := by
  go_enter Tryz.func53, Tryz.ntmps53
  go_wp2
  go_loopw [5] (fun v wr => ∃ m : Nat, (m ≤ ts.length) ∧ v = .int .i64 ((m + 1 : Nat) : Int) ∧ Below w.heap.size w wr ∧ ascTo (ts.map nkey) (m + 1) = true) (fun v _ => ts.length + 1 - (intOf v).toNat)
  case atStart => exact ⟨0, Nat.zero_le _, rfl, Below.refl _ _, rfl⟩
  case round =>
    obtain ⟨m, hk, rfl, hb, hasc⟩ := hrel
    have HC : Hid (ascTo (ts.map nkey) (m + 1) = true) := hasc
    clear hasc
    by_cases hlt : m + 1 < ts.length
    · obtain ⟨s, hsk⟩ : ∃ s, ts[m]? = some s := ⟨ts[m], List.getElem?_eq_getElem (by omega)⟩
      obtain ⟨t, htk⟩ : ∃ t, ts[m + 1]? = some t := ⟨ts[m + 1], List.getElem?_eq_getElem hlt⟩
      have hne : ts ≠ [] := by intro e; subst e; simp at hlt
      obtain rfl := hs.here hne
      have hsb := hs.below hb
      obtain ⟨c0, c1, c2, c3, c4, c5, c6, c7, c8, c9, c10, c11, c12⟩ := cl_cells (hsb.cell _ _ htk)
      obtain ⟨d0, d1, d2, d3, d4, d5, d6, d7, d8, d9, d10, d11, d12⟩ := cl_cells (hsb.cell _ _ hsk)
      have hbx : b < wr.heap.size := hsb.lt hne
      have HS : Hid (ts[m]? = some s) := hsk
      have HT : Hid (ts[m + 1]? = some t) := htk
      have k0 : (0 : Int) ≤ (m : Int) := by omega
      have k1 : (m : Int) + 1 < (ts.length : Int) := by omega
      have k2 : (m : Int) < (ts.length : Int) := by omega
      have k4 : (0 : Int) ≤ (m : Int) + 1 := by omega
      have k5 : IntKind.i64.wrap (m : Int) = (m : Int) := by rw [IntKind.wrap_i64]; omega
      have k7 : m < ts.length := by omega
      have qn := Cls.any wr
      have q0 := Cls.cell hbx
      have C1 : ∀ u : Cls wr, Calls Tryz.prog 54 #[.agg #[.string t.nm, .int .i64 t.n, .int .i64 t.p.q, .int .i64 t.p.s, .slice t.p.a t.p.l.length t.p.cap, .int .i64 t.p.fr, .int .i64 t.p.b, .int .i64 t.sn, .int .i64 t.x.q, .int .i64 t.x.s, .slice t.x.a t.x.l.length t.x.cap, .int .i64 t.x.fr, .int .i64 t.x.b]] u.it fun e w' => e = .returned (.string t.nm) ∧ Below u.it.heap.size u.it w' := fun u => nameOfH_any t u.it
      have C2 : ∀ u : Cls wr, Calls Tryz.prog 54 #[.agg #[.string s.nm, .int .i64 s.n, .int .i64 s.p.q, .int .i64 s.p.s, .slice s.p.a s.p.l.length s.p.cap, .int .i64 s.p.fr, .int .i64 s.p.b, .int .i64 s.sn, .int .i64 s.x.q, .int .i64 s.x.s, .slice s.x.a s.x.l.length s.x.cap, .int .i64 s.x.fr, .int .i64 s.x.b]] u.it fun e w' => e = .returned (.string s.nm) ∧ Below u.it.heap.size u.it w' := fun u => nameOfH_any s u.it
      clear hsk htk
      have HL := ltN_le t.nm s.nm
      cases h2 : ltN s.nm t.nm with
      | false =>
        have H2 : Hid (ascAt (ts.map nkey) (m + 1) = false) := by show _ = _; rw [ascAt_n HS.out HT.out, h2]
        rw [h2] at HL
        clear h2
        go_wp2
        refine wp_region_cls (by kernel_rfl) (by kernel_rfl) ?_
        repeat (go_big_quiet_step ((go_at_call 54; first | exact Calls.cls_of (C1 _) | exact Calls.cls_of (C2 _))))
        refine wpQuiet_nil ?_
        rintro _ ⟨u, rfl⟩
        clear c0 d0 c1 d1 c2 d2 c3 d3 c4 d4 c5 d5 c6 d6 c7 d7 c8 d8 c9 d9 c10 d10 c11 d11 c12 d12 q0 qn C1 C2
        go_wp2
        go_ret
        exact ⟨by rw [ascTo_not hlt H2.out]; rfl, hb.trans (u.same.mono hb.size)⟩
      | true =>
        have H2 : Hid (ascAt (ts.map nkey) (m + 1) = true) := by show _ = _; rw [ascAt_n HS.out HT.out, h2]
        rw [h2] at HL
        clear h2
        go_wp2
        refine wp_region_cls (by kernel_rfl) (by kernel_rfl) ?_
        repeat (go_big_quiet_step ((go_at_call 54; first | exact Calls.cls_of (C1 _) | exact Calls.cls_of (C2 _))))
        refine wpQuiet_nil ?_
        rintro _ ⟨u, rfl⟩
        clear c0 d0 c1 d1 c2 d2 c3 d3 c4 d4 c5 d5 c6 d6 c7 d7 c8 d8 c9 d9 c10 d10 c11 d11 c12 d12 q0 qn C1 C2
        go_wp2
        go_roundw
        case rel => exact ⟨m + 1, by omega, by go_num, hb.trans (u.same.mono hb.size), by rw [ascTo_succ, HC.out, H2.out]; rfl⟩
        case measure => simp [intOf]; omega
    · have e1 : ascTo (ts.map nkey) ts.length = true := by
        rcases Nat.eq_zero_or_pos ts.length with h0 | h0
        · rw [h0]; rfl
        · have h1 := HC.out
          unfold ascTo at h1 ⊢
          rw [List.all_eq_true] at h1 ⊢
          exact fun x hx => h1 x (by simp at hx ⊢; omega)
      have E1 : Hid (ascTo (ts.map nkey) ts.length = true) := e1
      have hle : ¬ ((m : Int) + 1 < ts.length) := by omega
      clear e1
      go_wp2
      go_ret
      exact ⟨by rw [E1.out]; rfl, hb⟩


theorem inOrder_any (la : Int) (a : Option Addr) (b o cap : Nat) (ts : List Hd) (v : Bool) (w : World) (hl : ts.length ≤ 1048576) (hs : HdsAt w a b o ts) (hv : ascTo (ts.map nkey) ts.length = v) :
    Calls Tryz.prog 27 #[.agg #[.int .i64 la, .slice a ts.length cap]] w fun e w' => e = .returned (.bool v) ∧ Below w.heap.size w w' := by
  subst hv
  have B0 := bel1 (w := w) (.cells #[.int .i64 la, .slice a ts.length cap] 29)
  go_enter Tryz.func27, Tryz.ntmps27
  go_wp2_with fail
  refine (ascendByH_any a b o cap ts _ hl (hs.below B0)).mono ?_
  rintro e w2 ⟨rfl, hb2⟩
  go_wp2
  go_ret
  exact ⟨rfl, B0.trans (hb2.mono B0.size)⟩

theorem hasRoom_any (la : Int) (a : Option Addr) (cap n : Nat) (v : Bool) (w : World) (hv : decide (n ≤ 8) = v) :
    Calls Tryz.prog 26 #[.agg #[.int .i64 la, .slice a n cap]] w fun e w' => e = .returned (.bool v) ∧ Below w.heap.size w w' := by
  have e1 : v = decide ((n : Int) ≤ 8) := by rw [← hv, Bool.eq_iff_iff]; simp; omega
  rw [e1]
  clear e1 hv
  go_enter Tryz.func26, Tryz.ntmps26
  go_wp2
  go_ret
  exact ⟨rfl, bel1 _⟩
end Go.Proofs.YtfmdejilhbankaaGreat

namespace Go.Proofs.YtfmdejilhbankaaGreat
open Go.RowKit

set_option maxHeartbeats 1000000 in
theorem szHeld_any (t : Hd) (left : Int) (w : World) (hn : t.nm.size ≤ maxLen) (hl : t.p.l.length ≤ maxLen) (hz : t.x.l.length ≤ maxLen) (h0 : -1 ≤ left) (h1 : left ≤ 1048576) :
    Calls Tryz.prog 48 #[t.val, .int .i64 left] w fun e w' => e = .returned (.int .i64 (leftH left t)) ∧ Below w.heap.size w w' := by
  have T0 := HdIn.new w t 80
  have wr : IntKind.i64.wrap (left - (t.nm.size : Int)) = left - t.nm.size := by unfold maxLen at hn; rw [IntKind.wrap_i64]; omega
  by_cases h : left - t.nm.size < 0
  · have G : Hid (leftH left t = -1) := by show _ = _; unfold leftH leftN; rw [if_pos h]; simp
    go_enter Tryz.func48, Tryz.ntmps48
    go_wp2
    go_ret
    exact ⟨by rw [G.out]; rfl, bel1 _⟩
  · have E : leftN left t.nm.size t.p.l.length = leftB (left - t.nm.size) t.p.l.length := by unfold leftN; rw [if_neg h]
    have hx := leftB_left (left - t.nm.size) t.p.l.length (by omega) (by omega)
    have h0' : -1 ≤ left - (t.nm.size : Int) := by omega
    have h1' : left - (t.nm.size : Int) ≤ 1048576 := by omega
    by_cases h2 : leftB (left - t.nm.size) t.p.l.length < 0
    · have G : Hid (leftH left t = -1) := by show _ = _; unfold leftH; rw [E, if_pos h2]
      have G2 : Hid (leftB (left - t.nm.size) t.p.l.length = -1) := by show _ = _; omega
      clear E
      go_enter Tryz.func48, Tryz.ntmps48
      go_wp2_with fail
      refine (szPath_any _ _ _ _ _ _ _ _ _ hl h0' h1').mono ?_
      rintro e w1 ⟨rfl, hb1⟩
      go_wp2
      go_ret
      exact ⟨by rw [G.out]; rfl, (bel1 _).trans (hb1.mono (by simp))⟩
    · have G : Hid (leftH left t = leftB (leftB (left - t.nm.size) t.p.l.length) t.x.l.length) := by show _ = _; unfold leftH; rw [E, if_neg h2]
      clear E
      go_enter Tryz.func48, Tryz.ntmps48
      go_wp2_with fail
      refine (szPath_any _ _ _ _ _ _ _ _ _ hl h0' h1').mono ?_
      rintro e w1 ⟨rfl, hb1⟩
      have B1 : Below w.heap.size w w1 := (bel1 _).trans (hb1.mono (by simp))
      have T1 := T0.keep hb1 T0.lt
      obtain ⟨c0, c1, c2, c3, c4, c5, c6, c7, c8, c9, c10, c11, c12⟩ := cl_cells T1.cs
      simp only [Nat.zero_add] at c0 c1 c2 c3 c4 c5 c6 c7 c8 c9 c10 c11 c12
      generalize leftB (left - t.nm.size) t.p.l.length = L at *
      have hy := leftB_left L t.x.l.length (by omega) (by omega)
      have hL0 : -1 ≤ L := by omega
      have hL1 : L ≤ 1048576 := by omega
      clear T0 T1
      go_wp2_with fail
      refine (szPath_any _ _ _ _ _ _ _ _ _ hz hL0 hL1).mono ?_
      rintro e w2 ⟨rfl, hb2⟩
      by_cases h3 : leftB L t.x.l.length < 0
      · have G3 : Hid (leftB L t.x.l.length = -1) := by show _ = _; omega
        go_wp2
        go_ret
        exact ⟨by rw [G.out, G3.out]; rfl, B1.trans (hb2.mono B1.size)⟩
      · go_wp2
        go_ret
        exact ⟨by rw [G.out]; rfl, B1.trans (hb2.mono B1.size)⟩

theorem szHelds_any (a : Option Addr) (b o cap : Nat) (ts : List Hd) (left : Int) (w : World) (hl : ts.length ≤ maxLen) (ht : ∀ t ∈ ts, t.nm.size ≤ maxLen ∧ t.p.l.length ≤ maxLen ∧ t.x.l.length ≤ maxLen) (h0 : -1 ≤ left) (h1 : left ≤ 1048576) (hs : HdsAt w a b o ts) :
    Calls Tryz.prog 20 #[.slice a ts.length cap, .int .i64 left] w fun e w' => e = .returned (.int .i64 (leftHs left ts)) ∧ Below w.heap.size w w' := by
  have wrp : IntKind.i64.wrap (left - (ts.length : Int)) = left - ts.length := by unfold maxLen at hl; rw [IntKind.wrap_i64]; omega
  by_cases h : left - ts.length < 0
  · have G : Hid (leftHs left ts = -1) := by show _ = _; unfold leftHs leftB; rw [if_pos h]; exact foldH_neg ts _ rfl
    go_enter Tryz.func20, Tryz.ntmps20
    go_wp2
    go_ret
    exact ⟨by rw [G.out]; rfl, Below.refl _ _⟩
  · have G : Hid (leftHs left ts = ts.foldl leftH (left - ts.length)) := by show _ = _; unfold leftHs leftB; rw [if_neg h]
    have hle : ts.length ≤ 1048576 := by omega
    have HL : Hid (-1 ≤ left - (ts.length : Int) ∧ left - (ts.length : Int) ≤ 1048576) := ⟨by omega, by omega⟩
    go_enter Tryz.func20, Tryz.ntmps20
    go_wp2
    go_loopw [1, 5] (fun v u wr => ∃ k : Nat, k ≤ ts.length ∧ u = .int .i64 k ∧ v = .int .i64 ((ts.take k).foldl leftH (left - ts.length)) ∧ Below w.heap.size w wr) (fun _ u _ => ts.length - (intOf u).toNat)
    case atStart => exact ⟨0, Nat.zero_le _, rfl, rfl, Below.refl _ _⟩
    case round =>
      obtain ⟨k, hk, rfl, rfl, hb⟩ := hrel
      by_cases hlt : k < ts.length
      · obtain ⟨t, htk⟩ : ∃ t, ts[k]? = some t := ⟨ts[k], List.getElem?_eq_getElem hlt⟩
        have hne : ts ≠ [] := by intro e; subst e; simp at hlt
        obtain rfl := hs.here hne
        obtain ⟨c0, c1, c2, c3, c4, c5, c6, c7, c8, c9, c10, c11, c12⟩ := cl_cells ((hs.below hb).cell k t htk)
        have k0 : (0 : Int) ≤ (k : Int) := by omega
        have k1 : (k : Int) < (ts.length : Int) := by omega
        have hm := ht t (List.mem_of_getElem? htk)
        have HT : Hid (ts[k]? = some t) := htk
        have hr := foldH_range (ts.take k) (left - ts.length) HL.out.1 HL.out.2
        have HF : Hid ((ts.take (k + 1)).foldl leftH (left - ts.length) = leftH ((ts.take k).foldl leftH (left - ts.length)) t) := foldH_take ts _ htk
        have HR : Hid (-1 ≤ leftH ((ts.take k).foldl leftH (left - ts.length)) t) := (leftH_left _ t hr.2).1
        have HG : Hid (ts.foldl leftH (left - ts.length) = (ts.drop (k + 1)).foldl leftH ((ts.take (k + 1)).foldl leftH (left - ts.length))) := foldH_split ts _ (k + 1)
        clear htk wrp h
        obtain ⟨r0, r1⟩ := hr
        generalize (ts.take k).foldl leftH (left - ts.length) = x at *
        go_wp2_with fail
        refine (szHeld_any t _ _ hm.1 hm.2.1 hm.2.2 r0 r1).mono ?_
        rintro e w2 ⟨rfl, hb2⟩
        clear c0 c1 c2 c3 c4 c5 c6 c7 c8 c9 c10 c11 c12
        by_cases h2 : leftH x t < 0
        · have hr2 := HR.out
          have e1 : leftH x t = -1 := by omega
          have G2 : Hid (ts.foldl leftH (left - ts.length) = -1) := by show _ = _; rw [HG.out, HF.out]; exact foldH_neg _ _ e1
          clear e1 hr2
          go_wp2
          go_ret
          exact ⟨by rw [G.out, G2.out]; rfl, hb.trans (hb2.mono hb.size)⟩
        · go_wp2
          go_roundw
          case rel => exact ⟨k + 1, by omega, by go_num, by rw [HF.out], hb.trans (hb2.mono hb.size)⟩
          case measure => simp [intOf]; omega
      · obtain rfl : k = ts.length := by omega
        rw [List.take_length]
        go_wp2
        go_ret
        exact ⟨by rw [G.out]; rfl, hb⟩

set_option maxHeartbeats 2000000 in
theorem eqHeld_same (t u : Hd) (w : World) (hk : t.key = u.key) (hl : t.p.l.length ≤ 1048576) (hz : t.x.l.length ≤ 1048576) (ht : HdAt w t) (hu : HdAt w u) :
    Calls Tryz.prog 60 #[t.val, u.val] w fun e w' => e = .returned (.bool true) ∧ Below w.heap.size w w' := by
  obtain ⟨nm, n, ⟨q, s, fr, b, a, b0, o, cap, l⟩, sn, ⟨q2, s2, fr2, b2, a2, b02, o2, cap2, l2⟩⟩ := t
  obtain ⟨nm', n', ⟨q', s', fr', b', a', b0', o', cap', l'⟩, sn', ⟨q2', s2', fr2', b2', a2', b02', o2', cap2', l2'⟩⟩ := u
  simp only [Hd.key, Pt.key, Prod.mk.injEq] at hk hl hz
  obtain ⟨rfl, rfl, ⟨rfl, rfl, rfl, rfl, rfl⟩, rfl, rfl, rfl, rfl, rfl, rfl⟩ := hk
  have X0 := (HdIn.new w ⟨nm, n, ⟨q, s, fr, b, a, b0, o, cap, l⟩, sn, ⟨q2, s2, fr2, b2, a2, b02, o2, cap2, l2⟩⟩ 52).keep (bel1 (.cells #[.string nm, .int .i64 n, .int .i64 q, .int .i64 s, .slice a' l.length cap', .int .i64 fr, .int .i64 b, .int .i64 sn, .int .i64 q2, .int .i64 s2, .slice a2' l2.length cap2', .int .i64 fr2, .int .i64 b2] 52)) (by simp)
  have Y0 := HdIn.new (w.alloc (.cells #[.string nm, .int .i64 n, .int .i64 q, .int .i64 s, .slice a l.length cap, .int .i64 fr, .int .i64 b, .int .i64 sn, .int .i64 q2, .int .i64 s2, .slice a2 l2.length cap2, .int .i64 fr2, .int .i64 b2] 52)) ⟨nm, n, ⟨q, s, fr, b, a', b0', o', cap', l⟩, sn, ⟨q2, s2, fr2, b2, a2', b02', o2', cap2', l2⟩⟩ 52
  have B0 := bel2 (w := w) (.cells #[.string nm, .int .i64 n, .int .i64 q, .int .i64 s, .slice a l.length cap, .int .i64 fr, .int .i64 b, .int .i64 sn, .int .i64 q2, .int .i64 s2, .slice a2 l2.length cap2, .int .i64 fr2, .int .i64 b2] 52) (.cells #[.string nm, .int .i64 n, .int .i64 q, .int .i64 s, .slice a' l.length cap', .int .i64 fr, .int .i64 b, .int .i64 sn, .int .i64 q2, .int .i64 s2, .slice a2' l2.length cap2', .int .i64 fr2, .int .i64 b2] 52)
  have t2 := ht.below B0
  have u2 := hu.below B0
  go_enter Tryz.func60, Tryz.ntmps60
  go_wp2_with fail
  refine (eqPath_same _ _ _ _ _ _ b0 o _ b0' o' _ l _ hl t2.p u2.p).mono ?_
  rintro e w1 ⟨rfl, hb1⟩
  have X1 := X0.keep hb1 X0.lt
  have Y1 := Y0.keep hb1 Y0.lt
  have B1 := B0.trans (hb1.mono B0.size)
  simp only [World.size_alloc] at Y1
  obtain ⟨c0, c1, c2, c3, c4, c5, c6, c7, c8, c9, c10, c11, c12⟩ := cl_cells X1.cs
  obtain ⟨d0, d1, d2, d3, d4, d5, d6, d7, d8, d9, d10, d11, d12⟩ := cl_cells Y1.cs
  simp only [Nat.zero_add] at c0 c1 c2 c3 c4 c5 c6 c7 c8 c9 c10 c11 c12 d0 d1 d2 d3 d4 d5 d6 d7 d8 d9 d10 d11 d12
  have t3 := t2.below hb1
  have u3 := u2.below hb1
  clear X0 Y0 B0 t2 u2 hb1 X1 Y1
  go_wp2_with fail
  refine (eqPath_same _ _ _ _ _ _ b02 o2 _ b02' o2' _ l2 _ hz t3.x u3.x).mono ?_
  rintro e w2 ⟨rfl, hb2⟩
  go_wp2
  go_ret
  exact ⟨rfl, B1.trans (hb2.mono B1.size)⟩

theorem there_putB {w : World} {b o n : Nat} (h : w.there b o n) {p : Addr} (hp : p.block ≠ b) (v : Value) : (w.setCell p v).there b o n := fun j hj => by
  have hb := heap_setCell_other w p b v (Ne.symm hp)
  exact ⟨by rw [World.cell?_of_block (a := ⟨b, o + j, none⟩) hb]; exact (h j hj).1, by rw [World.frozen?_of_block (a := ⟨b, o + j, none⟩) hb]; exact (h j hj).2⟩

set_option maxRecDepth 20000 in
set_option maxHeartbeats 2000000 in
theorem toHeld_more (t : Hd) (w : World) (hl : t.p.l.length ≤ 1048576) (hz : t.x.l.length ≤ 1048576) (h : HdAt w t) :
    Calls Tryz.prog 52 #[t.val] w fun e w' => ∃ g h, e = .returned (t.put g h).val ∧ w.heap.size ≤ g ∧ g < h ∧ h < w'.heap.size ∧ HdAt w' (t.put g h) ∧ Below w.heap.size w w' ∧ (∀ i, i < t.p.l.length → w'.there g (i * 7) 7) ∧ ∀ i, i < t.x.l.length → w'.there h (i * 7) 7 := by
  have B0 := bel3 (w := w) (.cells #[.string t.nm, .int .i64 t.n, .int .i64 t.p.q, .int .i64 t.p.s, .slice t.p.a t.p.l.length t.p.cap, .int .i64 t.p.fr, .int .i64 t.p.b, .int .i64 t.sn, .int .i64 t.x.q, .int .i64 t.x.s, .slice t.x.a t.x.l.length t.x.cap, .int .i64 t.x.fr, .int .i64 t.x.b] 80) (.cells #[.string ⟨#[]⟩, .int .i64 0, .int .i64 0, .int .i64 0, .slice none 0 0, .int .i64 0, .int .i64 0, .int .i64 0, .int .i64 0, .int .i64 0, .slice none 0 0, .int .i64 0, .int .i64 0] 52) (.cells #[.string t.nm, .int .i64 t.n, .int .i64 0, .int .i64 0, .slice none 0 0, .int .i64 0, .int .i64 0, .int .i64 0, .int .i64 0, .int .i64 0, .slice none 0 0, .int .i64 0, .int .i64 0] 52)
  have S0 := h.below B0
  go_enter Tryz.func52, Tryz.ntmps52
  go_wp2_with fail
  refine (toPath_more _ _ _ _ _ t.p.b0 t.p.o _ _ _ hl S0.p).mono ?_
  rintro e w1 ⟨g, rfl, hg, hg', hs1, hb1, hth1⟩
  obtain ⟨hc1, hf1⟩ := old_cells hb1
  have r0 : ∀ j, w1.cell? ⟨w.heap.size, j, none⟩ = _ := fun j => hc1 w.heap.size j (by simp; omega)
  have r1 : ∀ j, w1.cell? ⟨w.heap.size + 1, j, none⟩ = _ := fun j => hc1 (w.heap.size + 1) j (by simp)
  have r2 : ∀ j, w1.cell? ⟨w.heap.size + 1 + 1, j, none⟩ = _ := fun j => hc1 (w.heap.size + 1 + 1) j (by simp)
  have f1 : ∀ j, w1.frozen? ⟨w.heap.size + 1, j, none⟩ = _ := fun j => hf1 (w.heap.size + 1) j (by simp)
  have f2 : ∀ j, w1.frozen? ⟨w.heap.size + 1 + 1, j, none⟩ = _ := fun j => hf1 (w.heap.size + 1 + 1) j (by simp)
  have B1 : Below w.heap.size w w1 := B0.trans (hb1.mono (by simp; omega))
  simp at hg
  clear hb1 hc1 hf1 S0 B0
  have B2 : Below w.heap.size w ((((((w1.setCell ⟨w.heap.size + 1 + 1, 2, none⟩ (.int .i64 t.p.q)).setCell ⟨w.heap.size + 1 + 1, 3, none⟩ (.int .i64 t.p.s)).setCell ⟨w.heap.size + 1 + 1, 4, none⟩ (.slice (some ⟨g, 0, none⟩) t.p.l.length t.p.l.length)).setCell ⟨w.heap.size + 1 + 1, 5, none⟩ (.int .i64 t.p.fr)).setCell ⟨w.heap.size + 1 + 1, 6, none⟩ (.int .i64 t.p.b)).setCell ⟨w.heap.size + 1 + 1, 7, none⟩ (.int .i64 t.sn)) := by
    iterate 6 (refine Below.setCell ?_ (by simp <;> omega) _)
    exact B1
  have S2 : StepsAt ((((((w1.setCell ⟨w.heap.size + 1 + 1, 2, none⟩ (.int .i64 t.p.q)).setCell ⟨w.heap.size + 1 + 1, 3, none⟩ (.int .i64 t.p.s)).setCell ⟨w.heap.size + 1 + 1, 4, none⟩ (.slice (some ⟨g, 0, none⟩) t.p.l.length t.p.l.length)).setCell ⟨w.heap.size + 1 + 1, 5, none⟩ (.int .i64 t.p.fr)).setCell ⟨w.heap.size + 1 + 1, 6, none⟩ (.int .i64 t.p.b)).setCell ⟨w.heap.size + 1 + 1, 7, none⟩ (.int .i64 t.sn)) (some ⟨g, 0, none⟩) g 0 t.p.l := by
    iterate 6 (refine StepsAt.set ?_ (by simp <;> omega) _)
    exact hs1
  have z2 : ((((((w1.setCell ⟨w.heap.size + 1 + 1, 2, none⟩ (.int .i64 t.p.q)).setCell ⟨w.heap.size + 1 + 1, 3, none⟩ (.int .i64 t.p.s)).setCell ⟨w.heap.size + 1 + 1, 4, none⟩ (.slice (some ⟨g, 0, none⟩) t.p.l.length t.p.l.length)).setCell ⟨w.heap.size + 1 + 1, 5, none⟩ (.int .i64 t.p.fr)).setCell ⟨w.heap.size + 1 + 1, 6, none⟩ (.int .i64 t.p.b)).setCell ⟨w.heap.size + 1 + 1, 7, none⟩ (.int .i64 t.sn)).heap.size = w1.heap.size := by simp [World.setCell]
  have th2 : ∀ i, i < t.p.l.length → ((((((w1.setCell ⟨w.heap.size + 1 + 1, 2, none⟩ (.int .i64 t.p.q)).setCell ⟨w.heap.size + 1 + 1, 3, none⟩ (.int .i64 t.p.s)).setCell ⟨w.heap.size + 1 + 1, 4, none⟩ (.slice (some ⟨g, 0, none⟩) t.p.l.length t.p.l.length)).setCell ⟨w.heap.size + 1 + 1, 5, none⟩ (.int .i64 t.p.fr)).setCell ⟨w.heap.size + 1 + 1, 6, none⟩ (.int .i64 t.p.b)).setCell ⟨w.heap.size + 1 + 1, 7, none⟩ (.int .i64 t.sn)).there g (i * 7) 7 := fun i hi => by
    iterate 6 (refine there_putB ?_ (by simp <;> omega) _)
    exact hth1 i hi
  go_wp2_with fail
  refine (toPath_more _ _ _ _ _ t.x.b0 t.x.o _ _ _ hz (h.x.below B2 h.x.lt)).mono ?_
  rintro e w2 ⟨x, rfl, hx, hx', hs2, hb2, hti2⟩
  have S3 := S2.below hb2 (fun _ => by rw [z2]; exact hg')
  have th3 : ∀ i, i < t.p.l.length → w2.there g (i * 7) 7 := fun i hi => there_below (th2 i hi) hb2 (by rw [z2]; exact hg')
  obtain ⟨hc2, hf2⟩ := old_cells hb2
  rw [z2] at hx
  have q1 : ∀ j, w2.cell? ⟨w.heap.size + 1, j, none⟩ = _ := fun j => hc2 (w.heap.size + 1) j (by rw [z2]; omega)
  have q2 : ∀ j, w2.cell? ⟨w.heap.size + 1 + 1, j, none⟩ = _ := fun j => hc2 (w.heap.size + 1 + 1) j (by rw [z2]; omega)
  have e1 : ∀ j, w2.frozen? ⟨w.heap.size + 1, j, none⟩ = _ := fun j => hf2 (w.heap.size + 1) j (by rw [z2]; omega)
  have e2 : ∀ j, w2.frozen? ⟨w.heap.size + 1 + 1, j, none⟩ = _ := fun j => hf2 (w.heap.size + 1 + 1) j (by rw [z2]; omega)
  have B3 := B2.trans (hb2.mono (by rw [z2]; exact B1.size))
  clear hb2 hc2 hf2 S2 B2 z2 th2
  go_wp2
  refine bodyPost_ret (v := (t.put g x).val) (by simp [results, Tryz.results52, go_sem, *]) rfl ⟨g, x, rfl, by omega, by omega, by simpa [World.setCell] using hx', ⟨?_, ?_⟩, ?_, ?_, ?_⟩
  · repeat (refine StepsAt.set ?_ (by simp <;> omega) _)
    exact S3
  · repeat (refine StepsAt.set ?_ (by simp <;> omega) _)
    exact hs2
  · repeat (refine Below.setCell ?_ (by simp <;> omega) _)
    exact B3
  · intro i hi
    repeat (refine there_putB ?_ (by simp <;> omega) _)
    exact th3 i hi
  · intro i hi
    repeat (refine there_putB ?_ (by simp <;> omega) _)
    exact hti2 i hi

set_option maxHeartbeats 2000000 in
theorem eqHelds_same (a a' : Option Addr) (b o cap b' o' cap' : Nat) (us vs : List Hd) (w : World) (hl : us.length ≤ 1048576) (hk : us.map Hd.key = vs.map Hd.key) (hsm : ∀ t ∈ us, t.p.l.length ≤ 1048576 ∧ t.x.l.length ≤ 1048576) (hs : HdsAt w a b o us) (hs' : HdsAt w a' b' o' vs) :
    Calls Tryz.prog 32 #[.slice a us.length cap, .slice a' us.length cap'] w fun e w' => e = .returned (.bool true) ∧ Below w.heap.size w w' := by
  have hlv : vs.length = us.length := by have := congrArg List.length hk; simpa using this.symm
  go_enter Tryz.func32, Tryz.ntmps32
  go_wp2
  go_loopw [5] (fun v wr => ∃ k : Nat, k ≤ us.length ∧ v = .int .i64 k ∧ Below w.heap.size w wr) (fun v _ => us.length - (intOf v).toNat)
  case atStart => exact ⟨0, Nat.zero_le _, rfl, Below.refl _ _⟩
  case round =>
    obtain ⟨k, hk1, rfl, hb⟩ := hrel
    by_cases hlt : k < us.length
    · obtain ⟨t, htk⟩ : ∃ t, us[k]? = some t := ⟨us[k], List.getElem?_eq_getElem hlt⟩
      obtain ⟨u, huk⟩ : ∃ t, vs[k]? = some t := ⟨vs[k], List.getElem?_eq_getElem (by omega)⟩
      have hkey : t.key = u.key := by
        have := congrArg (fun l => l[k]?) hk
        simp only [List.getElem?_map, htk, huk] at this
        simpa using this
      have hne : us ≠ [] := by intro e; subst e; simp at hlt
      have hne' : vs ≠ [] := by intro e; subst e; simp at hlv; omega
      obtain rfl := hs.here hne
      obtain rfl := hs'.here hne'
      obtain ⟨c0, c1, c2, c3, c4, c5, c6, c7, c8, c9, c10, c11, c12⟩ := cl_cells ((hs.below hb).cell k t htk)
      obtain ⟨d0, d1, d2, d3, d4, d5, d6, d7, d8, d9, d10, d11, d12⟩ := cl_cells ((hs'.below hb).cell k u huk)
      have k0 : (0 : Int) ≤ (k : Int) := by omega
      have k1 : (k : Int) < (us.length : Int) := by omega
      have hbx : b < wr.heap.size := (hs.below hb).lt hne
      have hbx' : b' < wr.heap.size := (hs'.below hb).lt hne'
      have ht := (hs.below hb).each t (List.mem_of_getElem? htk)
      have hu := (hs'.below hb).each u (List.mem_of_getElem? huk)
      have hm := hsm t (List.mem_of_getElem? htk)
      have HE : Hid (t.key = u.key) := hkey
      clear htk huk hkey hk hlv
      have htd : HdAt wr.drew t := ht.below ((Below.refl _ _).drew)
      have hud : HdAt wr.drew u := hu.below ((Below.refl _ _).drew)
      go_wp2
      go_region_held3 (fun w' => w'.cell? ⟨b, o + k * 13, none⟩ = some (.string t.nm) ∧ w'.cell? ⟨b, o + k * 13 + 1, none⟩ = some (.int .i64 t.n) ∧ w'.cell? ⟨b, o + k * 13 + 2, none⟩ = some (.int .i64 t.p.q) ∧ w'.cell? ⟨b, o + k * 13 + 3, none⟩ = some (.int .i64 t.p.s) ∧ w'.cell? ⟨b, o + k * 13 + 4, none⟩ = some (.slice t.p.a t.p.l.length t.p.cap) ∧ w'.cell? ⟨b, o + k * 13 + 5, none⟩ = some (.int .i64 t.p.fr) ∧ w'.cell? ⟨b, o + k * 13 + 6, none⟩ = some (.int .i64 t.p.b) ∧ w'.cell? ⟨b, o + k * 13 + 7, none⟩ = some (.int .i64 t.sn) ∧ w'.cell? ⟨b, o + k * 13 + 8, none⟩ = some (.int .i64 t.x.q) ∧ w'.cell? ⟨b, o + k * 13 + 9, none⟩ = some (.int .i64 t.x.s) ∧ w'.cell? ⟨b, o + k * 13 + 10, none⟩ = some (.slice t.x.a t.x.l.length t.x.cap) ∧ w'.cell? ⟨b, o + k * 13 + 11, none⟩ = some (.int .i64 t.x.fr) ∧ w'.cell? ⟨b, o + k * 13 + 12, none⟩ = some (.int .i64 t.x.b) ∧ w'.cell? ⟨b', o' + k * 13, none⟩ = some (.string u.nm) ∧ w'.cell? ⟨b', o' + k * 13 + 1, none⟩ = some (.int .i64 u.n) ∧ w'.cell? ⟨b', o' + k * 13 + 2, none⟩ = some (.int .i64 u.p.q) ∧ w'.cell? ⟨b', o' + k * 13 + 3, none⟩ = some (.int .i64 u.p.s) ∧ w'.cell? ⟨b', o' + k * 13 + 4, none⟩ = some (.slice u.p.a u.p.l.length u.p.cap) ∧ w'.cell? ⟨b', o' + k * 13 + 5, none⟩ = some (.int .i64 u.p.fr) ∧ w'.cell? ⟨b', o' + k * 13 + 6, none⟩ = some (.int .i64 u.p.b) ∧ w'.cell? ⟨b', o' + k * 13 + 7, none⟩ = some (.int .i64 u.sn) ∧ w'.cell? ⟨b', o' + k * 13 + 8, none⟩ = some (.int .i64 u.x.q) ∧ w'.cell? ⟨b', o' + k * 13 + 9, none⟩ = some (.int .i64 u.x.s) ∧ w'.cell? ⟨b', o' + k * 13 + 10, none⟩ = some (.slice u.x.a u.x.l.length u.x.cap) ∧ w'.cell? ⟨b', o' + k * 13 + 11, none⟩ = some (.int .i64 u.x.fr) ∧ w'.cell? ⟨b', o' + k * 13 + 12, none⟩ = some (.int .i64 u.x.b))
        (simp [go_sem, *])
        (first
          | (go_at_call 60; refine (eqHeld_same t u _ HE.out hm.1 hm.2 htd hud).mono ?_; rintro e w1 ⟨rfl, hb1⟩; have hc1 : ∀ j, w1.cell? ⟨b, j, none⟩ = wr.cell? ⟨b, j, none⟩ := (fun j => hb1.cell (p := ⟨b, j, none⟩) hbx); have hc2 : ∀ j, w1.cell? ⟨b', j, none⟩ = wr.cell? ⟨b', j, none⟩ := (fun j => hb1.cell (p := ⟨b', j, none⟩) hbx'))
          | fail)
      go_wp2
      go_roundw
      case rel => exact ⟨k + 1, by omega, by go_num, hb.drew.trans (hb1.mono hb.size)⟩
      case measure => simp [intOf]; omega
    · go_wp2
      go_ret
      exact ⟨rfl, hb⟩
end Go.Proofs.YtfmdejilhbankaaGreat

namespace Go.Proofs.YtfmdejilhbankaaGreat
open Go.RowKit

theorem held_info : (Tryz.prog.info? 52).map (fun i => (i.zero, i.size, i.bytes)) = some (some (.agg #[.string ⟨#[]⟩, .int .i64 0, .int .i64 0, .int .i64 0, .slice none 0 0, .int .i64 0, .int .i64 0, .int .i64 0, .int .i64 0, .int .i64 0, .slice none 0 0, .int .i64 0, .int .i64 0]), 13, 144) := by kernel_rfl
theorem held_size : (Tryz.prog.info? 52).map (·.size) = some 13 := by kernel_rfl
theorem held_one (t : Hd) : ((#[.string t.nm, .int .i64 t.n, .int .i64 t.p.q, .int .i64 t.p.s, .slice t.p.a t.p.l.length t.p.cap, .int .i64 t.p.fr, .int .i64 t.p.b, .int .i64 t.sn, .int .i64 t.x.q, .int .i64 t.x.s, .slice t.x.a t.x.l.length t.x.cap, .int .i64 t.x.fr, .int .i64 t.x.b] : Array Value).all (·.oneCell')) = true := by simp [Value.oneCell']
/-- Somebody who holds something, stored whole. -/
theorem store_held {ops : Array Oper} {rest : List Oper} {op : Oper} {a : Act} {w : World} {Q : Exit → Act → World → Prop} (hgd : op.guard = none) (x y : Operand) (ho : op.op = .store 52 x y)
    (b o : Nat) (t : Hd) (hx : a.eval x = .pointer (some ⟨b, o, none⟩)) (hy : a.eval y = t.val) (ht : w.there b o 13) (h : wpList Tryz.prog ops Q rest (a.put op.dst undef) (w.setCells b o t.cl)) : wpList Tryz.prog ops Q (op :: rest) a w :=
  wpList_store_mid hgd 52 x y ho b o _ hx hy ht held_size (held_one t) h

theorem heap_setCells_otherB (b : Nat) : ∀ (vs : List Value) (o : Nat) (w : World) (B : Nat), B ≠ b → (w.setCells b o vs).heap[B]? = w.heap[B]?
  | [], _, _, _, _ => rfl
  | v :: vs, o, w, B, hB => by
    show ((w.setCell ⟨b, o, none⟩ v).setCells b (o + 1) vs).heap[B]? = _
    rw [heap_setCells_otherB b vs (o + 1) _ B hB]
    exact heap_setCell_other w ⟨b, o, none⟩ B v hB

/-- Copies of those who hold something: where their lists lie. -/
structure HdPut (w : World) (lo : Nat) (t u : Hd) : Prop where
  it : ∃ g h, u = t.put g h ∧ lo < g ∧ lo < h ∧ g < w.heap.size ∧ h < w.heap.size ∧ (∀ i, i < t.p.l.length → w.there g (i * 7) 7) ∧ ∀ i, i < t.x.l.length → w.there h (i * 7) 7
  at_ : HdAt w u
theorem HdPut.blocks {w w' : World} {lo : Nat} {t u : Hd} (h : HdPut w lo t u) (hs : w.heap.size ≤ w'.heap.size) (hb : ∀ k, lo < k → k < w.heap.size → w'.heap[k]? = w.heap[k]?) : HdPut w' lo t u := by
  obtain ⟨g, k, rfl, h1, h2, h3, h4, h5, h6⟩ := h.it
  refine ⟨⟨g, k, rfl, h1, h2, by omega, by omega, fun i hi => ?_, fun i hi => ?_⟩, ⟨?_, ?_⟩⟩
  · exact fun j hj => ⟨by rw [World.cell?_of_block (a := ⟨g, i * 7 + j, none⟩) (hb g h1 h3)]; exact (h5 i hi j hj).1, by rw [World.frozen?_of_block (a := ⟨g, i * 7 + j, none⟩) (hb g h1 h3)]; exact (h5 i hi j hj).2⟩
  · exact fun j hj => ⟨by rw [World.cell?_of_block (a := ⟨k, i * 7 + j, none⟩) (hb k h2 h4)]; exact (h6 i hi j hj).1, by rw [World.frozen?_of_block (a := ⟨k, i * 7 + j, none⟩) (hb k h2 h4)]; exact (h6 i hi j hj).2⟩
  · exact ⟨h.at_.p.here, fun hn => Nat.lt_of_lt_of_le (h.at_.p.lt hn) hs, fun i s hi j v hv => by rw [World.cell?_of_block (w := w) (a := ⟨g, 0 + i * 7 + j, none⟩) (hb g h1 h3)]; exact h.at_.p.cell i s hi j v hv⟩
  · exact ⟨h.at_.x.here, fun hn => Nat.lt_of_lt_of_le (h.at_.x.lt hn) hs, fun i s hi j v hv => by rw [World.cell?_of_block (w := w) (a := ⟨k, 0 + i * 7 + j, none⟩) (hb k h2 h4)]; exact h.at_.x.cell i s hi j v hv⟩

/-- A row of copies. -/
structure HdsPut (w : World) (g : Nat) (ts us : List Hd) : Prop where
  lt : g < w.heap.size
  len : us.length = ts.length
  there : ∀ i, i < ts.length → w.there g (i * 13) 13
  at_ : ∀ (i : Nat) (t : Hd), ts[i]? = some t → ∃ u, us[i]? = some u ∧ HdPut w g t u ∧ w.rangeAt g (i * 13) u.cl
theorem HdsPut.copied {w : World} {g : Nat} {ts us : List Hd} (h : HdsPut w g ts us) : CopiedH ts us := ⟨h.len, fun i t hi => by
  obtain ⟨u, h1, h2, _⟩ := h.at_ i t hi
  obtain ⟨a, b, rfl, _⟩ := h2.it
  exact ⟨a, b, h1⟩⟩
theorem HdsPut.rows {w : World} {g : Nat} {ts us : List Hd} (h : HdsPut w g ts us) : HdsAt w (some ⟨g, 0, none⟩) g 0 us := by
  have back : ∀ (i : Nat) (u : Hd), us[i]? = some u → ∃ t, HdPut w g t u ∧ w.rangeAt g (i * 13) u.cl := fun i u hu => by
    have hil : i < ts.length := by have := (List.getElem?_eq_some_iff.1 hu).1; have := h.len; omega
    obtain ⟨u', q1, q2, q3⟩ := h.at_ i ts[i] (List.getElem?_eq_getElem hil)
    rw [hu] at q1
    cases q1
    exact ⟨_, q2, q3⟩
  refine ⟨fun _ => rfl, fun _ => h.lt, fun i u hu => ?_, fun u hu => ?_⟩
  · obtain ⟨_, _, q3⟩ := back i u hu
    simpa using q3
  · obtain ⟨i, hi⟩ := List.mem_iff_getElem?.1 hu
    obtain ⟨_, q2, _⟩ := back i u hi
    exact q2.at_
theorem HdsPut.below {w w' : World} {g : Nat} {ts us : List Hd} (h : HdsPut w g ts us) (hb : Below w.heap.size w w') : HdsPut w' g ts us where
  lt := Nat.lt_of_lt_of_le h.lt hb.size
  len := h.len
  there i hi := there_below (h.there i hi) hb h.lt
  at_ i t hi := by
    obtain ⟨u, q1, q2, q3⟩ := h.at_ i t hi
    exact ⟨u, q1, q2.blocks hb.size (fun k _ hk => hb.block k hk), range_below q3 hb h.lt⟩

theorem HdsPut.set {w : World} {g : Nat} {ts us : List Hd} (h : HdsPut w g ts us) {p : Addr} (hp : p.block < g) (v : Value) : HdsPut (w.setCell p v) g ts us := by
  have hs : (w.setCell p v).heap.size = w.heap.size := by simp [World.setCell]
  have hb : ∀ B, p.block < B → (w.setCell p v).heap[B]? = w.heap[B]? := fun B hB => heap_setCell_other w p B v (by omega)
  refine ⟨by rw [hs]; exact h.lt, h.len, fun i hi j hj => ?_, fun i t hi => ?_⟩
  · exact ⟨by rw [World.cell?_of_block (a := ⟨g, i * 13 + j, none⟩) (hb g hp)]; exact (h.there i hi j hj).1, by rw [World.frozen?_of_block (a := ⟨g, i * 13 + j, none⟩) (hb g hp)]; exact (h.there i hi j hj).2⟩
  · obtain ⟨u, q1, q2, q3⟩ := h.at_ i t hi
    exact ⟨u, q1, q2.blocks (by rw [hs]; exact Nat.le_refl _) (fun k hk _ => hb k (by omega)), fun j v' hv => by rw [World.cell?_of_block (a := ⟨g, i * 13 + j, none⟩) (hb g hp)]; exact q3 j v' hv⟩

set_option maxHeartbeats 4000000 in
set_option maxRecDepth 20000 in
theorem toHelds_any (a : Option Addr) (b o cap : Nat) (ts : List Hd) (w : World) (hl : ts.length ≤ 1048576) (hsm : ∀ t ∈ ts, t.p.l.length ≤ 1048576 ∧ t.x.l.length ≤ 1048576) (hs : HdsAt w a b o ts) :
    Calls Tryz.prog 25 #[.slice a ts.length cap] w
      fun e w' => ∃ g us, e = .returned (.slice (some ⟨g, 0, none⟩) ts.length ts.length) ∧ w.heap.size ≤ g ∧ HdsPut w' g ts us ∧ Below w.heap.size w w' := by
  obtain ⟨i0, hi, hz0, hz1, hz2⟩ := info_parts held_info
  go_enter Tryz.func25, Tryz.ntmps25
  go_wp2_with (first | (at_make; refine wpList_make_full _ rfl _ _ 27 rfl w.heap.size 52 i0 _ 13 Tryz.underlying27 hi hz0 hz1 .i64 .i64 _ _ ts.length rfl rfl rfl rfl (by rw [hz2]; omega) (by unfold maxLen; omega) (Nat.le_refl _) ?_; intro w1 hown1 hgrow1))
  obtain ⟨hlen1, hrow1⟩ := hown1
  have hb1 : Below w.heap.size w w1 := (Below.refl _ _).grown hgrow1 (Nat.le_refl _) (fun k e => by cases e)
  obtain ⟨cur, hcur, hsz⟩ : ∃ cur, w1.heap[w.heap.size]? = some (.cells cur 52 (0, 0)) ∧ cur.size = ts.length * 13 := by
    rcases hrow1 with ⟨h, _⟩ | ⟨g, cap, cur, h, _, hh, _, _, hs, _⟩
    · cases h
    · simp at h
      obtain ⟨rfl, rfl⟩ := h
      exact ⟨cur, hh, hs⟩
  clear hlen1 hrow1 hgrow1
  have hth : ∀ i, i < ts.length → w1.there w.heap.size (i * 13) 13 := fun i hi => there_of_block hcur _ _ (by omega)
  have hgr1 : w.heap.size < w1.heap.size := lt_of_block hcur
  go_loopw [4] (fun v wr => ∃ (k : Nat) (us : List Hd), k ≤ ts.length ∧ v = .int .i64 k ∧ Below w.heap.size w wr ∧ w.heap.size < wr.heap.size ∧ (∀ i, i < ts.length → wr.there w.heap.size (i * 13) 13) ∧ us.length = k ∧ (∀ (i : Nat) (t : Hd), i < k → ts[i]? = some t → ∃ u, us[i]? = some u ∧ HdPut wr w.heap.size t u ∧ wr.rangeAt w.heap.size (i * 13) u.cl))
    (fun v _ => ts.length - (intOf v).toNat)
  case atStart => exact ⟨0, [], Nat.zero_le _, rfl, hb1, hgr1, hth, rfl, fun i s h => absurd h (by omega)⟩
  case round =>
    obtain ⟨k, us, hk, rfl, hb, hgr, hthr, hul, hdone⟩ := hrel
    by_cases hlt : k < ts.length
    · obtain ⟨t, htk⟩ : ∃ t, ts[k]? = some t := ⟨ts[k], List.getElem?_eq_getElem hlt⟩
      have hne : ts ≠ [] := by intro e; subst e; simp at hlt
      obtain rfl := hs.here hne
      obtain ⟨c0, c1, c2, c3, c4, c5, c6, c7, c8, c9, c10, c11, c12⟩ := cl_cells ((hs.below hb).cell k t htk)
      have k0 : (0 : Int) ≤ (k : Int) := by omega
      have k1 : (k : Int) < (ts.length : Int) := by omega
      have hm := List.mem_of_getElem? htk
      have HK : Hid (ts[k]? = some t) := htk
      clear htk
      go_wp2_with fail
      refine (toHeld_more t _ (hsm t hm).1 (hsm t hm).2 ((hs.each t hm).below hb)).mono ?_
      rintro e w2 ⟨g2, h2, rfl, hg2, hgh2, hh2, hs2, hb2, hta2, htb2⟩
      have hth2 : w2.there w.heap.size (k * 13) 13 := there_below (hthr k hlt) hb2 hgr
      have HT : Hid (w2.there w.heap.size (k * 13) 13) := hth2
      clear c0 c1 c2 c3 c4 c5 c6 c7 c8 c9 c10 c11 c12
      go_wp2_with (refine store_held rfl (.tmp 21) (.tmp 20) rfl w.heap.size (k * 13) (t.put g2 h2) rfl rfl hth2 ?_; clear hth2)
      go_roundw
      case rel =>
        have hob : ∀ B, B ≠ w.heap.size → (w2.setCells w.heap.size (k * 13) (t.put g2 h2).cl).heap[B]? = w2.heap[B]? := fun B hB => heap_setCells_otherB w.heap.size _ _ w2 B hB
        have hsz2 : (w2.setCells w.heap.size (k * 13) (t.put g2 h2).cl).heap.size = w2.heap.size := size_setCells _ _ _ _
        refine ⟨k + 1, us ++ [t.put g2 h2], by omega, by go_num, below_setCells (Nat.le_refl _) _ _ _ _ (hb.trans (hb2.mono (by have := hb.size; omega))), ?_, ?_, by simp; omega, ?_⟩
        · rw [hsz2]; have := hb2.size; omega
        · intro i hi
          exact World.there_setCells (there_below (hthr i hi) hb2 hgr) _ _ _
        · intro i s hi hs'
          by_cases hik : i = k
          · subst hik
            obtain rfl : t = s := by rw [HK.out] at hs'; simpa using hs'
            have P2 : HdPut w2 w.heap.size t (t.put g2 h2) := ⟨⟨g2, h2, rfl, by omega, by omega, by omega, hh2, hta2, htb2⟩, hs2⟩
            exact ⟨_, by rw [List.getElem?_append_right (by omega), hul]; simp, P2.blocks (by rw [hsz2]; exact Nat.le_refl _) (fun B hB _ => hob B (by omega)), World.rangeAt_setCells_same _ _ _ _ HT.out⟩
          · obtain ⟨u, q1, q2, q3⟩ := hdone i s (by omega) hs'
            exact ⟨u, by rw [List.getElem?_append_left (by omega)]; exact q1, (q2.blocks hb2.size (fun B _ hB => hb2.block B hB)).blocks (by rw [hsz2]; exact Nat.le_refl _) (fun B hB _ => hob B (by omega)), World.rangeAt_setCells_apart (range_below q3 hb2 hgr) _ _ _ (by right; left; simp; omega)⟩
      case measure => simp [intOf]; omega
    · have hkl : k = ts.length := by omega
      subst hkl
      go_wp2
      go_ret
      exact ⟨w.heap.size, us, rfl, Nat.le_refl _, ⟨hgr, hul, hthr, fun i t hi => hdone i t (List.getElem?_eq_some_iff.1 hi).1 hi⟩, hb⟩
end Go.Proofs.YtfmdejilhbankaaGreat

namespace Go.Proofs.YtfmdejilhbankaaGreat
open Go.RowKit

/-- A digit ahead of a text. -/
def digT (n : Nat) (t : ByteArray) : ByteArray := { data := #[48 + UInt8.ofNat (n % 10)] } ++ t
theorem digT_size (n : Nat) (t : ByteArray) : (digT n t).size = t.size + 1 := by
  unfold digT
  rw [ByteArray.size_append]
  show 1 + _ = _
  omega
/-- The digits of a number, ahead of a text. -/
def mtF : Nat → Nat → ByteArray → ByteArray
  | 0, _, t => t
  | f + 1, n, t => if n = 0 then t else mtF f (n / 10) (digT n t)
theorem mtF_zero (f : Nat) (t : ByteArray) : mtF f 0 t = t := by cases f <;> rfl
theorem mtF_succ (f : Nat) {n : Nat} (t : ByteArray) (h : ¬ n = 0) : mtF (f + 1) n t = mtF f (n / 10) (digT n t) := by
  show (if n = 0 then _ else _) = _
  rw [if_neg h]
/-- The text of a mark. -/
def mtOf (k : Int) : ByteArray := { data := #[109] } ++ (if k ≤ 0 then { data := #[48] } else mtF 13 k.toNat { data := #[] })

theorem conv1 (W : World) (d : Int) : (convert 138 9 (.slice (some ⟨W.heap.size, 0, none⟩) 1 1)).run Tryz.prog (W.alloc (.cells #[.int .u8 d] 5)) = .ok (.string { data := #[UInt8.ofNat d.toNat] }) (W.alloc (.cells #[.int .u8 d] 5)) := by
  rw [run_convert_bytes_string _ _ _ 5 _ 1 1 Tryz.underlying138 Tryz.underlying5 Tryz.underlying9]
  have hl := run_loadCells_list (P := Tryz.prog) (W.alloc (.cells #[.int .u8 d] 5)) ⟨W.heap.size, 0, none⟩ ([d].map (Value.int .u8)) (fun j v hj => by
    match j, hj with
    | 0, hj => simp at hj; subst hj; simp [Addr.add, go_sem])
  exact run_bytesToString _ _ 1 1 [d] hl

set_option maxRecDepth 20000 in
set_option maxHeartbeats 400000 in
theorem markText_any (k : Int) (w : World) (h0 : 0 ≤ k) (h1 : k ≤ 1000000000000) :
    Calls Tryz.prog 72 #[.int .i64 k] w fun e w' => e = .returned (.string (mtOf k)) ∧ Below w.heap.size w w' := by
  by_cases hk : k ≤ 0
  · have e1 : mtOf k = { data := #[109, 48] } := by unfold mtOf; rw [if_pos hk]; rfl
    rw [e1]
    clear e1
    go_enter Tryz.func72, Tryz.ntmps72
    go_wp2
    go_ret
    exact ⟨rfl, Below.refl _ _⟩
  · have e1 : Hid (mtOf k = { data := #[109] } ++ mtF 13 k.toNat { data := #[] }) := by show _ = _; unfold mtOf; rw [if_neg hk]
    have cv := conv1
    go_enter Tryz.func72, Tryz.ntmps72
    go_wp2
    go_loopw [0, 3] (fun v u wr => ∃ (f n : Nat) (t : ByteArray), v = .int .i64 n ∧ u = .string t ∧ n < 10 ^ f ∧ f ≤ 13 ∧ t.size + f ≤ 13 ∧ mtF f n t = mtF 13 k.toNat { data := #[] } ∧ Below w.heap.size w wr) (fun v _ _ => (intOf v).toNat)
    case atStart => exact ⟨13, k.toNat, _, by congr 1; omega, rfl, by omega, Nat.le_refl _, by show 0 + 13 ≤ 13; omega, rfl, Below.refl _ _⟩
    case round =>
      obtain ⟨f, n, t, rfl, rfl, hn, hf, ht, he, hb⟩ := hrel
      have HE : Hid (mtF f n t = mtF 13 k.toNat { data := #[] }) := he
      clear he
      by_cases h : n = 0
      · subst h
        go_wp2
        go_ret
        exact ⟨by rw [e1.out, ← HE.out, mtF_zero]; rfl, hb⟩
      · have n0 : (0 : Int) < (n : Int) := by omega
        have n1 : (n : Int) ≤ 10000000000000 := by
          have : 10 ^ f ≤ 10 ^ 13 := Nat.pow_le_pow_right (by omega) hf
          omega
        have HN : Hid (n < 10 ^ f) := hn
        have HT : Hid (t.size + f ≤ 13) := ht
        have HF : Hid (f ≤ 13) := hf
        have htz : t.size ≤ 13 := by omega
        clear hn ht hf
        go_wp2
        have f0 : ¬ f = 0 := by intro e; subst e; have := HN.out; simp at this; omega
        obtain ⟨f', rfl⟩ : ∃ f', f = f' + 1 := ⟨f - 1, by omega⟩
        have a1 := HN.out
        have a2 := HT.out
        have a3 := HF.out
        refine ⟨⟨f', n / 10, digT n t, by congr 1, rfl, ?_, by omega, by rw [digT_size]; omega, ?_, hb.alloc hb.size _⟩, ?_⟩
        · rw [Nat.pow_succ] at a1; omega
        · rw [← mtF_succ f' t h]; exact HE.out
        · show (((n : Int) / 10).toNat) < ((n : Int).toNat)
          omega
end Go.Proofs.YtfmdejilhbankaaGreat

namespace Go.Proofs.YtfmdejilhbankaaGreat
open Go.RowKit

set_option maxHeartbeats 4000000 in
set_option maxRecDepth 20000 in
theorem markSteps_any (k0 : Int) (g cap n : Nat) (w : World) (hn : n ≤ 1048576) (hk : 0 ≤ k0 ∧ k0 ≤ 1000) (hth : ∀ i, i < n → w.there g (i * 7) 7) :
    Calls Tryz.prog 73 #[.slice (some ⟨g, 0, none⟩) n cap, .int .i64 k0] w
      fun e w' => e = .returned (.int .i64 (k0 + ((n * 7 : Nat) : Int))) ∧ w.grownBy w' (some g) ∧ w'.heap.size = w.heap.size := by
  obtain ⟨k1, k2⟩ := hk
  go_enter Tryz.func73, Tryz.ntmps73
  go_wp2
  go_loopw [1, 5] (fun v u wr => ∃ i : Nat, i ≤ n ∧ u = .int .i64 i ∧ v = .int .i64 (k0 + ((i * 7 : Nat) : Int)) ∧ (∀ j, j < n → wr.there g (j * 7) 7) ∧ w.grownBy wr (some g) ∧ wr.heap.size = w.heap.size) (fun _ u _ => n - (intOf u).toNat)
  case atStart => exact ⟨0, Nat.zero_le _, rfl, by simp, hth, ⟨rfl, rfl, rfl, Nat.le_refl _, fun _ _ _ => rfl⟩, rfl⟩
  case round =>
    clear hth
    obtain ⟨i, hi, rfl, rfl, hth, hg, hz⟩ := hrel
    by_cases hlt : i < n
    · have ht := hth i hlt
      obtain ⟨v0, c0⟩ := Option.isSome_iff_exists.1 (ht 0 (by omega)).1
      obtain ⟨v1, c1⟩ := Option.isSome_iff_exists.1 (ht 1 (by omega)).1
      obtain ⟨v2, c2⟩ := Option.isSome_iff_exists.1 (ht 2 (by omega)).1
      obtain ⟨v3, c3⟩ := Option.isSome_iff_exists.1 (ht 3 (by omega)).1
      obtain ⟨v4, c4⟩ := Option.isSome_iff_exists.1 (ht 4 (by omega)).1
      obtain ⟨v5, c5⟩ := Option.isSome_iff_exists.1 (ht 5 (by omega)).1
      obtain ⟨v6, c6⟩ := Option.isSome_iff_exists.1 (ht 6 (by omega)).1
      have f0 := (ht 0 (by omega)).2
      have f1 := (ht 1 (by omega)).2
      have f2 := (ht 2 (by omega)).2
      have f3 := (ht 3 (by omega)).2
      have f4 := (ht 4 (by omega)).2
      have f5 := (ht 5 (by omega)).2
      have f6 := (ht 6 (by omega)).2
      rw [Nat.add_zero] at c0 f0
      have i0 : (0 : Int) ≤ (i : Int) := by omega
      have i1 : (i : Int) < (n : Int) := by omega
      have HT : Hid (∀ j, j < n → wr.there g (j * 7) 7) := hth
      have HG : Hid (w.grownBy wr (some g)) := hg
      have HZ : Hid (wr.heap.size = w.heap.size) := hz
      clear ht hth hg hz
      generalize hK : k0 + ((i * 7 : Nat) : Int) = K
      have b1 : 0 ≤ K ∧ K ≤ 10000000 := by omega
      obtain ⟨b2, b3⟩ := b1
      have EK : Hid (k0 + ((i * 7 : Nat) : Int) = K) := hK
      clear hK
      go_wp2
      go_roundw
      case rel =>
        have hK := EK.out
        refine ⟨i + 1, by omega, by go_num, by congr 1; omega, ?_, ?_, by simpa [World.setCell] using HZ.out⟩
        · intro j hj
          iterate 7 (refine there_set ?_ _ _ _)
          exact HT.out j hj
        · exact grown_over2 HG.out (grown_over2 (grown_over2 (grown_over2 (grown_over2 (grown_over2 (grown_over2 (grown_set wr ⟨g, i * 7, none⟩ _) (grown_set _ ⟨g, i * 7 + 1, none⟩ _)) (grown_set _ ⟨g, i * 7 + 2, none⟩ _)) (grown_set _ ⟨g, i * 7 + 3, none⟩ _)) (grown_set _ ⟨g, i * 7 + 4, none⟩ _)) (grown_set _ ⟨g, i * 7 + 5, none⟩ _)) (grown_set _ ⟨g, i * 7 + 6, none⟩ _))
      case measure => simp [intOf]; omega
    · obtain rfl : i = n := by omega
      go_wp2
      go_ret
      exact ⟨rfl, hg, hz⟩
end Go.Proofs.YtfmdejilhbankaaGreat

namespace Go.Proofs.YtfmdejilhbankaaGreat
open Go.RowKit

/-- The cells of a list of steps. -/
def stepCells (l : List Stp) : List Value := l.flatMap Stp.cells
theorem stepCells_cons (t : Stp) (l : List Stp) : stepCells (t :: l) = t.cells ++ stepCells l := by simp [stepCells]
theorem stepCells_length (l : List Stp) : (stepCells l).length = l.length * 7 := by
  induction l with
  | nil => rfl
  | cons t l ih => rw [stepCells_cons, List.length_append, ih]; simp; omega
theorem stepCells_at : ∀ (l : List Stp) (i : Nat) (t : Stp) (j : Nat), l[i]? = some t → j < 7 → (stepCells l)[i * 7 + j]? = t.cells[j]?
  | [], i, t, j, h, _ => by simp at h
  | y :: ys, 0, t, j, h, hj => by
    simp at h
    subst h
    rw [stepCells_cons, List.getElem?_append_left (by simp; omega)]
    simp
  | y :: ys, i + 1, t, j, h, hj => by
    rw [stepCells_cons, List.getElem?_append_right (by simp; omega)]
    have ih := stepCells_at ys i t j (by simpa using h) hj
    rw [← ih]
    congr 1
    simp
    omega
theorem stepCells_one (l : List Stp) : ∀ u ∈ stepCells l, u.oneCell' = true := by
  intro u hu
  simp only [stepCells, List.mem_flatMap] at hu
  obtain ⟨t, _, h⟩ := hu
  simp at h
  rcases h with rfl | rfl | rfl | rfl | rfl | rfl | rfl <;> rfl
theorem steps_news {w : World} {b o : Nat} {l : List Stp} {a : Option Addr} (h : StepsAt w a b o l) : ∀ j u, (stepCells l)[j]? = some u → w.cell? ((⟨b, o, none⟩ : Addr).add j) = some u := by
  intro j u hj
  have hlt : j < l.length * 7 := by rw [← stepCells_length]; exact (List.getElem?_eq_some_iff.1 hj).1
  obtain ⟨i, r, hr, rfl⟩ : ∃ i r, r < 7 ∧ j = i * 7 + r := ⟨j / 7, j % 7, Nat.mod_lt _ (by decide), by omega⟩
  obtain ⟨t, ht⟩ : ∃ t, l[i]? = some t := ⟨l[i], List.getElem?_eq_getElem (by omega)⟩
  rw [stepCells_at l i t r ht hr] at hj
  have := h.cell i t ht r u hj
  rw [Addr.add_mid, ← Nat.add_assoc]
  exact this
theorem steps_owned {w : World} {base e n g cap : Nat} {l : List Stp} (h : w.ownsRow base e 7 (.slice (some ⟨g, 0, none⟩) n cap) n (stepCells l)) : StepsAt w (some ⟨g, 0, none⟩) g 0 l where
  here _ := rfl
  lt _ := (h.lt g rfl).2
  cell i t ht j u hu := by
    have hj : j < 7 := (List.getElem?_eq_some_iff.1 hu).1
    have hn : l.length * 7 = n * 7 := by rw [← stepCells_length]; exact h.1
    have hi : i < l.length := (List.getElem?_eq_some_iff.1 ht).1
    have := (h.cellAt (i * 7 + j) (by omega)).trans (stepCells_at l i t j ht hj)
    rw [Nat.zero_add]
    exact this.trans hu

theorem stopAt {p : Prop} (h : Hid p) : p := h.out

theorem stepCells_set : ∀ (l : List Stp) (i : Nat) (t u : Stp), l[i]? = some t → u = { t with fr := u.fr, by_ := u.by_ } → stepCells (l.set i u) = ((stepCells l).set (i * 7 + 4) (.int .i64 u.fr)).set (i * 7 + 5) (.int .i64 u.by_)
  | [], i, t, u, h, _ => by simp at h
  | y :: ys, 0, t, u, h, he => by
    simp at h
    subst h
    rw [List.set_cons_zero, stepCells_cons, stepCells_cons]
    have e1 : u.x = y.x := by rw [he]
    have e2 : u.y = y.y := by rw [he]
    have e3 : u.lo = y.lo := by rw [he]
    have e4 : u.hi = y.hi := by rw [he]
    have e5 : u.ho = y.ho := by rw [he]
    simp [e1, e2, e3, e4, e5]
  | y :: ys, i + 1, t, u, h, he => by
    have ih := stepCells_set ys i t u (by simpa using h) he
    rw [List.set_cons_succ, stepCells_cons, stepCells_cons, ih, show (i + 1) * 7 + 4 = i * 7 + 4 + 7 by omega, show (i + 1) * 7 + 5 = i * 7 + 5 + 7 by omega]
    simp

/-- A path lies in a block of its own. -/
structure PathAt (w : World) (B : Nat) (q s fr b : Int) (v : Value) : Prop where
  it : w.heap[B]? = some (.cells #[.int .i64 q, .int .i64 s, v, .int .i64 fr, .int .i64 b] 43 (0, 0))
theorem PathAt.new (w : World) (q s fr b : Int) (v : Value) : PathAt (w.alloc (.cells #[.int .i64 q, .int .i64 s, v, .int .i64 fr, .int .i64 b] 43)) w.heap.size q s fr b v := ⟨heap_alloc_new w _⟩
theorem PathAt.lt {w : World} {B : Nat} {q s fr b : Int} {v : Value} (h : PathAt w B q s fr b v) : B < w.heap.size := lt_of_block h.it
theorem PathAt.keep {w w' : World} {B N : Nat} {q s fr b : Int} {v : Value} (h : PathAt w B q s fr b v) (hb : Below N w w') (hB : B < N) : PathAt w' B q s fr b v := ⟨(hb.block B hB).trans h.it⟩
theorem PathAt.set {w : World} {B : Nat} {q s fr b : Int} {v : Value} (h : PathAt w B q s fr b v) {p : Addr} (hp : B ≠ p.block) (u : Value) : PathAt (w.setCell p u) B q s fr b v := ⟨(heap_setCell_other w p B u hp).trans h.it⟩
theorem PathAt.cells {w : World} {B : Nat} {q s fr b : Int} {v : Value} (h : PathAt w B q s fr b v) : (w.cell? ⟨B, 0, none⟩ = some (.int .i64 q) ∧ w.cell? ⟨B, 1, none⟩ = some (.int .i64 s) ∧ w.cell? ⟨B, 2, none⟩ = some v ∧ w.cell? ⟨B, 3, none⟩ = some (.int .i64 fr) ∧ w.cell? ⟨B, 4, none⟩ = some (.int .i64 b)) ∧ ∀ j, w.frozen? ⟨B, j, none⟩ = false := by
  have := h.it
  refine ⟨⟨?_, ?_, ?_, ?_, ?_⟩, fun j => ?_⟩ <;> simp [World.cell?, World.frozen?, this]

/-- The cells of a result that is a path, not yet written. -/
structure ResP (w : World) (B : Nat) : Prop where
  lt : B < w.heap.size
  it : w.heap[B]? = some (.cells #[.int .i64 0, .int .i64 0, .slice none 0 0, .int .i64 0, .int .i64 0] 43 (0, 0))
theorem ResP.new (w : World) : ResP (w.alloc (.cells #[.int .i64 0, .int .i64 0, .slice none 0 0, .int .i64 0, .int .i64 0] 43)) w.heap.size := ⟨by simp, heap_alloc_new w _⟩
theorem ResP.keep {w w' : World} {B N : Nat} (h : ResP w B) (hb : Below N w w') (hB : B < N) : ResP w' B := ⟨Nat.lt_of_lt_of_le h.lt hb.size, (hb.block B hB).trans h.it⟩
theorem ResP.set {w : World} {B : Nat} (h : ResP w B) {p : Addr} (hp : B ≠ p.block) (u : Value) : ResP (w.setCell p u) B := ⟨by simpa [World.setCell] using h.lt, (heap_setCell_other w p B u hp).trans h.it⟩
theorem ResP.cells {w : World} {B : Nat} (h : ResP w B) : (w.cell? ⟨B, 0, none⟩ = some (.int .i64 0) ∧ w.cell? ⟨B, 1, none⟩ = some (.int .i64 0) ∧ w.cell? ⟨B, 2, none⟩ = some (.slice none 0 0) ∧ w.cell? ⟨B, 3, none⟩ = some (.int .i64 0) ∧ w.cell? ⟨B, 4, none⟩ = some (.int .i64 0)) ∧ ∀ j, w.frozen? ⟨B, j, none⟩ = false := by
  have := h.it
  refine ⟨⟨?_, ?_, ?_, ?_, ?_⟩, fun j => ?_⟩ <;> simp [World.cell?, World.frozen?, this]

theorem PathAt.grown {w w' : World} {P : Nat} {q s fr b : Int} {v : Value} {row : Option Nat} (h : PathAt w P q s fr b v) (hg : w.grownBy w' row) (hne : row ≠ some P) : PathAt w' P q s fr b v := ⟨(hg.block P h.lt (fun e => hne e.symm)).trans h.it⟩
theorem owns_grown {w w' : World} {base e size n : Nat} {v : Value} {xs : List Value} {row : Option Nat} (h : w.ownsRow base e size v n xs) (hg : w.grownBy w' row) (hr : ∀ k, row = some k → k < base) : w'.ownsRow base e size v n xs :=
  ⟨h.1, h.2.imp id fun ⟨g, cap, cur, h1, h2, h3, h4⟩ => ⟨g, cap, cur, h1, h2, (hg.block g (lt_of_block h3) (fun e => by have := hr g e.symm; omega)).trans h3, h4⟩⟩

theorem stepCells_put : ∀ (l : List Stp) (i j : Nat) (t t' : Stp) (u : Value), l[i]? = some t → j < 7 → t'.cells = t.cells.set j u → (stepCells l).set (i * 7 + j) u = stepCells (l.set i t')
  | [], i, _, _, _, _, h, _, _ => by simp at h
  | y :: ys, 0, j, t, t', u, h, hj, he => by
    simp at h
    subst h
    rw [List.set_cons_zero, stepCells_cons, stepCells_cons, he, Nat.zero_mul, Nat.zero_add, List.set_append_left _ _ (by simp; omega)]
  | y :: ys, i + 1, j, t, t', u, h, hj, he => by
    have ih := stepCells_put ys i j t t' u (by simpa using h) hj he
    rw [List.set_cons_succ, stepCells_cons, stepCells_cons, ← ih, List.set_append_right _ _ (by simp; omega)]
    congr 2
    simp
    omega

/-- A row is not a path's block. -/
theorem row_not_path {w : World} {base n X : Nat} {v : Value} {xs : List Value} {q s fr b : Int} {u : Value} (ho : w.ownsRow base 102 7 v n xs) (hp : PathAt w X q s fr b u) : ∀ k, v.ownBlock = some k → k ≠ X := by
  intro k hk e
  subst e
  rcases ho.2 with ⟨rfl, _⟩ | ⟨g, cap, cur, rfl, _, hh, _⟩
  · simp [Value.ownBlock] at hk
  · simp [Value.ownBlock] at hk
    subst hk
    rw [hp.it] at hh
    have := congrArg (fun o => match o with | some (Obj.cells _ t _) => t | _ => 0) hh
    simp at this
end Go.Proofs.YtfmdejilhbankaaGreat

namespace Go.Proofs.YtfmdejilhbankaaGreat
open Go.RowKit

/-- One number of one step is written. -/
theorem row_put {w : World} {base g cap n : Nat} {l : List Stp} (h : w.ownsRow base 102 7 (.slice (some ⟨g, 0, none⟩) n cap) n (stepCells l)) {i j : Nat} {t t' : Stp} {u : Value} (ht : l[i]? = some t) (hj : j < 7) (he : t'.cells = t.cells.set j u) :
    (w.setCell ⟨g, i * 7 + j, none⟩ u).ownsRow base 102 7 (.slice (some ⟨g, 0, none⟩) n cap) n (stepCells (l.set i t')) := by
  have hi : i < l.length := (List.getElem?_eq_some_iff.1 ht).1
  have hn : l.length * 7 = n * 7 := by rw [← stepCells_length]; exact h.1
  rw [← stepCells_put l i j t t' u ht hj he]
  exact owns_put h (by omega) u
theorem row_put_set {w : World} {base g cap n : Nat} {l : List Stp} {i j : Nat} {t t' : Stp} {u : Value} (h : w.ownsRow base 102 7 (.slice (some ⟨g, 0, none⟩) n cap) n (stepCells (l.set i t))) (hi : i < l.length) (hj : j < 7) (he : t'.cells = t.cells.set j u) :
    (w.setCell ⟨g, i * 7 + j, none⟩ u).ownsRow base 102 7 (.slice (some ⟨g, 0, none⟩) n cap) n (stepCells (l.set i t')) := by
  have h1 := row_put h (j := j) (t := t) (t' := t') (u := u) (by rw [List.getElem?_set_self hi]) hj he
  rw [List.set_set] at h1
  exact h1
/-- All of one step is written. -/
theorem row_put7 {w : World} {base g cap n : Nat} {l : List Stp} (h : w.ownsRow base 102 7 (.slice (some ⟨g, 0, none⟩) n cap) n (stepCells l)) {i : Nat} {t : Stp} (ht : l[i]? = some t) (x y lo hi fr by_ : Int) (ho : Bool) :
    (((((((w.setCell ⟨g, i * 7, none⟩ (.int .i64 x)).setCell ⟨g, i * 7 + 1, none⟩ (.int .i64 y)).setCell ⟨g, i * 7 + 2, none⟩ (.int .i64 lo)).setCell ⟨g, i * 7 + 3, none⟩ (.int .i64 hi)).setCell ⟨g, i * 7 + 4, none⟩ (.int .i64 fr)).setCell ⟨g, i * 7 + 5, none⟩ (.int .i64 by_)).setCell ⟨g, i * 7 + 6, none⟩ (.bool ho)).ownsRow base 102 7 (.slice (some ⟨g, 0, none⟩) n cap) n (stepCells (l.set i { x := x, y := y, lo := lo, hi := hi, fr := fr, by_ := by_, ho := ho })) := by
  have hil : i < l.length := (List.getElem?_eq_some_iff.1 ht).1
  obtain ⟨a0, a1, a2, a3, a4, a5, a6⟩ := t
  have h0 := row_put h (j := 0) (t' := ⟨x, a1, a2, a3, a4, a5, a6⟩) (u := .int .i64 x) ht (by decide) rfl
  have h1 := row_put_set (t := ⟨x, a1, a2, a3, a4, a5, a6⟩) (t' := ⟨x, y, a2, a3, a4, a5, a6⟩) (j := 1) (u := .int .i64 y) h0 hil (by decide) rfl
  have h2 := row_put_set (t := ⟨x, y, a2, a3, a4, a5, a6⟩) (t' := ⟨x, y, lo, a3, a4, a5, a6⟩) (j := 2) (u := .int .i64 lo) h1 hil (by decide) rfl
  have h3 := row_put_set (t := ⟨x, y, lo, a3, a4, a5, a6⟩) (t' := ⟨x, y, lo, hi, a4, a5, a6⟩) (j := 3) (u := .int .i64 hi) h2 hil (by decide) rfl
  have h4 := row_put_set (t := ⟨x, y, lo, hi, a4, a5, a6⟩) (t' := ⟨x, y, lo, hi, fr, a5, a6⟩) (j := 4) (u := .int .i64 fr) h3 hil (by decide) rfl
  have h5 := row_put_set (t := ⟨x, y, lo, hi, fr, a5, a6⟩) (t' := ⟨x, y, lo, hi, fr, by_, a6⟩) (j := 5) (u := .int .i64 by_) h4 hil (by decide) rfl
  exact row_put_set (t := ⟨x, y, lo, hi, fr, by_, a6⟩) (t' := ⟨x, y, lo, hi, fr, by_, ho⟩) (j := 6) (u := .bool ho) h5 hil (by decide) rfl
/-- Steps that a call owns, as the walk meets them. -/
theorem steps_of {w : World} {base : Nat} {v : Value} {l : List Stp} (h : w.ownsRow base 102 7 v l.length (stepCells l)) : ∃ a b cap, v = .slice a l.length cap ∧ StepsAt w a b 0 l := by
  rcases h.2 with ⟨rfl, h0⟩ | ⟨g, cap, cur, rfl, _⟩
  · have : l = [] := List.eq_nil_of_length_eq_zero h0
    subst this
    exact ⟨none, 0, 0, rfl, ⟨fun h => absurd rfl h, fun h => absurd rfl h, fun i t hi => by simp at hi⟩⟩
  · exact ⟨some ⟨g, 0, none⟩, g, cap, rfl, steps_owned h⟩
end Go.Proofs.YtfmdejilhbankaaGreat

namespace Go.Proofs.YtfmdejilhbankaaGreat
open Go.RowKit

/-- The marks of one step. -/
def markStp (K : Int) : Stp := { x := K, y := K + 1, lo := K + 1 + 1, hi := K + 1 + 1 + 1, fr := K + 1 + 1 + 1 + 1, by_ := K + 1 + 1 + 1 + 1 + 1, ho := (K + 1 + 1 + 1 + 1 + 1 + 1) % 3 == 0 }
def markL (k0 : Int) (n : Nat) : List Stp := (List.range n).map fun i => markStp (k0 + ((i * 7 : Nat) : Int))
def markSTo (k0 : Int) (l : List Stp) (k : Nat) : List Stp := markL k0 k ++ l.drop k
theorem markL_length (k0 : Int) (n : Nat) : (markL k0 n).length = n := by simp [markL]
theorem markL_get (k0 : Int) {n i : Nat} (h : i < n) : (markL k0 n)[i]? = some (markStp (k0 + ((i * 7 : Nat) : Int))) := by simp [markL, h]
theorem markSTo_zero (k0 : Int) (l : List Stp) : markSTo k0 l 0 = l := by simp [markSTo, markL]
theorem markSTo_all (k0 : Int) (l : List Stp) : markSTo k0 l l.length = markL k0 l.length := by simp [markSTo]
theorem markSTo_length (k0 : Int) (l : List Stp) {k : Nat} (h : k ≤ l.length) : (markSTo k0 l k).length = l.length := by simp [markSTo, markL_length]; omega
theorem markSTo_now (k0 : Int) {l : List Stp} {k : Nat} {t : Stp} (h : l[k]? = some t) : (markSTo k0 l k)[k]? = some t := by
  unfold markSTo
  rw [List.getElem?_append_right (by rw [markL_length]; exact Nat.le_refl _), markL_length, List.getElem?_drop, Nat.sub_self, Nat.add_zero]
  exact h
theorem markSTo_succ (k0 : Int) {l : List Stp} {k : Nat} (h : k < l.length) : markSTo k0 l (k + 1) = (markSTo k0 l k).set k (markStp (k0 + ((k * 7 : Nat) : Int))) := by
  apply List.ext_getElem?
  intro i
  by_cases e : i = k
  · subst e
    rw [List.getElem?_set_self (by rw [markSTo_length k0 l (Nat.le_of_lt h)]; exact h)]
    unfold markSTo
    rw [List.getElem?_append_left (by rw [markL_length]; omega), markL_get k0 (by omega)]
  · rw [List.getElem?_set_ne (Ne.symm e)]
    unfold markSTo
    by_cases c : i < k
    · rw [List.getElem?_append_left (by rw [markL_length]; omega), List.getElem?_append_left (by rw [markL_length]; exact c), markL_get k0 (by omega), markL_get k0 c]
    · rw [List.getElem?_append_right (by rw [markL_length]; omega), List.getElem?_append_right (by rw [markL_length]; omega), markL_length, markL_length, List.getElem?_drop, List.getElem?_drop]
      congr 1
      omega

theorem markSteps_nil (k0 : Int) (w : World) : Calls Tryz.prog 73 #[.slice none 0 0, .int .i64 k0] w fun e w' => e = .returned (.int .i64 k0) ∧ w' = w := by
  go_enter Tryz.func73, Tryz.ntmps73
  go_wp2
  go_loopw [1, 5] (fun v u wr => v = .int .i64 k0 ∧ u = .int .i64 0 ∧ wr = w) (fun _ _ _ => 0)
  case atStart => exact ⟨rfl, rfl, rfl⟩
  case round =>
    obtain ⟨rfl, rfl, rfl⟩ := hrel
    go_wp2
    go_ret
    exact ⟨rfl, rfl⟩

theorem heldSteps_nil (k0 : Int) (w : World) : Calls Tryz.prog 74 #[.slice none 0 0, .int .i64 k0] w fun e w' => e = .returned (.int .i64 k0) ∧ w' = w := by
  go_enter Tryz.func74, Tryz.ntmps74
  go_wp2
  go_loopw [1, 5] (fun v u wr => v = .int .i64 k0 ∧ u = .int .i64 0 ∧ wr = w) (fun _ _ _ => 0)
  case atStart => exact ⟨rfl, rfl, rfl⟩
  case round =>
    obtain ⟨rfl, rfl, rfl⟩ := hrel
    go_wp2
    go_ret
    exact ⟨rfl, rfl⟩

set_option maxHeartbeats 4000000 in
set_option maxRecDepth 20000 in
theorem markSteps_row (k0 : Int) (g cap base : Nat) (l : List Stp) (w : World) (hn : l.length ≤ 1048576) (hk : 0 ≤ k0 ∧ k0 ≤ 1000) (h : w.ownsRow base 102 7 (.slice (some ⟨g, 0, none⟩) l.length cap) l.length (stepCells l)) :
    Calls Tryz.prog 73 #[.slice (some ⟨g, 0, none⟩) l.length cap, .int .i64 k0] w
      fun e w' => e = .returned (.int .i64 (k0 + ((l.length * 7 : Nat) : Int))) ∧ w'.ownsRow base 102 7 (.slice (some ⟨g, 0, none⟩) l.length cap) l.length (stepCells (markL k0 l.length)) ∧ w.grownBy w' (some g) := by
  obtain ⟨k1, k2⟩ := hk
  go_enter Tryz.func73, Tryz.ntmps73
  go_wp2
  go_loopw [1, 5] (fun v u wr => ∃ i : Nat, i ≤ l.length ∧ u = .int .i64 i ∧ v = .int .i64 (k0 + ((i * 7 : Nat) : Int)) ∧ wr.ownsRow base 102 7 (.slice (some ⟨g, 0, none⟩) l.length cap) l.length (stepCells (markSTo k0 l i)) ∧ w.grownBy wr (some g)) (fun _ u _ => l.length - (intOf u).toNat)
  case atStart => exact ⟨0, Nat.zero_le _, rfl, by simp, by rw [markSTo_zero]; exact h, ⟨rfl, rfl, rfl, Nat.le_refl _, fun _ _ _ => rfl⟩⟩
  case round =>
    clear h
    obtain ⟨i, hi, rfl, rfl, ho, hg⟩ := hrel
    by_cases hlt : i < l.length
    · obtain ⟨t, ht⟩ : ∃ t, l[i]? = some t := ⟨_, List.getElem?_eq_getElem hlt⟩
      have hnow := markSTo_now k0 ht
      have c0 := (ho.cellAt (i * 7) (by omega)).trans (stepCells_at _ i t 0 hnow (by decide))
      have c1 := (ho.cellAt (i * 7 + 1) (by omega)).trans (stepCells_at _ i t 1 hnow (by decide))
      have c2 := (ho.cellAt (i * 7 + 2) (by omega)).trans (stepCells_at _ i t 2 hnow (by decide))
      have c3 := (ho.cellAt (i * 7 + 3) (by omega)).trans (stepCells_at _ i t 3 hnow (by decide))
      have c4 := (ho.cellAt (i * 7 + 4) (by omega)).trans (stepCells_at _ i t 4 hnow (by decide))
      have c5 := (ho.cellAt (i * 7 + 5) (by omega)).trans (stepCells_at _ i t 5 hnow (by decide))
      have c6 := (ho.cellAt (i * 7 + 6) (by omega)).trans (stepCells_at _ i t 6 hnow (by decide))
      have cf := ho.frozenAt
      have i0 : (0 : Int) ≤ (i : Int) := by omega
      have i1 : (i : Int) < (l.length : Int) := by omega
      have HO : Hid (wr.ownsRow base 102 7 (.slice (some ⟨g, 0, none⟩) l.length cap) l.length (stepCells (markSTo k0 l i))) := ho
      have HG : Hid (w.grownBy wr (some g)) := hg
      have HN : Hid ((markSTo k0 l i)[i]? = some t) := hnow
      have HT : Hid (l[i]? = some t) := ht
      clear ho hg hnow ht
      generalize hK : k0 + ((i * 7 : Nat) : Int) = K
      have b1 : 0 ≤ K ∧ K ≤ 10000000 := by omega
      obtain ⟨b2, b3⟩ := b1
      have EK : Hid (k0 + ((i * 7 : Nat) : Int) = K) := hK
      clear hK
      go_wp2
      go_roundw
      case rel =>
        have hK := EK.out
        refine ⟨i + 1, by omega, by go_num, by congr 1; omega, ?_, ?_⟩
        · have h7 := row_put7 HO.out HN.out K (K + 1) (K + 1 + 1) (K + 1 + 1 + 1) (K + 1 + 1 + 1 + 1) (K + 1 + 1 + 1 + 1 + 1) ((K + 1 + 1 + 1 + 1 + 1 + 1) % 3 == 0)
          rw [markSTo_succ k0 hlt, hK]
          exact h7
        · exact grown_over2 HG.out (grown_over2 (grown_over2 (grown_over2 (grown_over2 (grown_over2 (grown_over2 (grown_set wr ⟨g, i * 7, none⟩ _) (grown_set _ ⟨g, i * 7 + 1, none⟩ _)) (grown_set _ ⟨g, i * 7 + 2, none⟩ _)) (grown_set _ ⟨g, i * 7 + 3, none⟩ _)) (grown_set _ ⟨g, i * 7 + 4, none⟩ _)) (grown_set _ ⟨g, i * 7 + 5, none⟩ _)) (grown_set _ ⟨g, i * 7 + 6, none⟩ _))
      case measure => simp [intOf]; omega
    · obtain rfl : i = l.length := by omega
      go_wp2
      go_ret
      exact ⟨rfl, by rw [← markSTo_all]; exact ho, hg⟩

set_option maxHeartbeats 4000000 in
set_option maxRecDepth 20000 in
theorem heldSteps_row (k0 : Int) (g cap base n : Nat) (w : World) (hn : n ≤ 1048576) (hk : 0 ≤ k0 ∧ k0 ≤ 1000) (h : w.ownsRow base 102 7 (.slice (some ⟨g, 0, none⟩) n cap) n (stepCells (markL k0 n))) :
    Calls Tryz.prog 74 #[.slice (some ⟨g, 0, none⟩) n cap, .int .i64 k0] w fun e w' => e = .returned (.int .i64 (k0 + ((n * 7 : Nat) : Int))) ∧ w' = w := by
  obtain ⟨k1, k2⟩ := hk
  go_enter Tryz.func74, Tryz.ntmps74
  go_wp2
  go_loopw [1, 5] (fun v u wr => ∃ i : Nat, i ≤ n ∧ u = .int .i64 i ∧ v = .int .i64 (k0 + ((i * 7 : Nat) : Int)) ∧ wr = w) (fun _ u _ => n - (intOf u).toNat)
  case atStart => exact ⟨0, Nat.zero_le _, rfl, by simp, rfl⟩
  case round =>
    obtain ⟨i, hi, rfl, rfl, rfl⟩ := hrel
    by_cases hlt : i < n
    · have hnow := markL_get k0 hlt
      generalize hK : k0 + ((i * 7 : Nat) : Int) = K at hnow ⊢
      have c0 : wr.cell? ⟨g, i * 7, none⟩ = some (.int .i64 K) := (h.cellAt (i * 7) (by omega)).trans (stepCells_at _ i _ 0 hnow (by decide))
      have c1 : wr.cell? ⟨g, i * 7 + 1, none⟩ = some (.int .i64 (K + 1)) := (h.cellAt (i * 7 + 1) (by omega)).trans (stepCells_at _ i _ 1 hnow (by decide))
      have c2 : wr.cell? ⟨g, i * 7 + 2, none⟩ = some (.int .i64 (K + 1 + 1)) := (h.cellAt (i * 7 + 2) (by omega)).trans (stepCells_at _ i _ 2 hnow (by decide))
      have c3 : wr.cell? ⟨g, i * 7 + 3, none⟩ = some (.int .i64 (K + 1 + 1 + 1)) := (h.cellAt (i * 7 + 3) (by omega)).trans (stepCells_at _ i _ 3 hnow (by decide))
      have c4 : wr.cell? ⟨g, i * 7 + 4, none⟩ = some (.int .i64 (K + 1 + 1 + 1 + 1)) := (h.cellAt (i * 7 + 4) (by omega)).trans (stepCells_at _ i _ 4 hnow (by decide))
      have c5 : wr.cell? ⟨g, i * 7 + 5, none⟩ = some (.int .i64 (K + 1 + 1 + 1 + 1 + 1)) := (h.cellAt (i * 7 + 5) (by omega)).trans (stepCells_at _ i _ 5 hnow (by decide))
      have c6 : wr.cell? ⟨g, i * 7 + 6, none⟩ = some (.bool ((K + 1 + 1 + 1 + 1 + 1 + 1) % 3 == 0)) := (h.cellAt (i * 7 + 6) (by omega)).trans (stepCells_at _ i _ 6 hnow (by decide))
      have i0 : (0 : Int) ≤ (i : Int) := by omega
      have i1 : (i : Int) < (n : Int) := by omega
      have b1 : 0 ≤ K ∧ K ≤ 10000000 := by omega
      obtain ⟨b2, b3⟩ := b1
      have EK : Hid (k0 + ((i * 7 : Nat) : Int) = K) := hK
      clear hK hnow
      go_wp2
      go_roundw
      case rel =>
        have hK := EK.out
        exact ⟨i + 1, by omega, by go_num, by congr 1; omega, by simp⟩
      case measure => simp [intOf]; omega
    · obtain rfl : i = n := by omega
      go_wp2
      go_ret
      exact ⟨rfl, rfl⟩

end Go.Proofs.YtfmdejilhbankaaGreat
