/- What LinkAgain answers; the program's and the specification's LinkAgain, by their contracts. -/
import Derived.Test.YtfcobpaaeijkoaaLkWord
import Derived.Test.YtfcobpaaeijkoaaLkPlace
import Derived.Test.YtfcobpaaeijkoaaLkBookB
import Derived.Test.YtfcobpaaeijkoaaLkNone
import Derived.Test.YtfcobpaaeijkoaaLkCopyS
namespace Go.Proofs.Ytfcobpaaeijkoaa
open Go.RowKit

/-- An answer: a word and whether it is one. -/
structure Ag where
  k : Int
  nm : ByteArray
  n : Int
  q : Int
  s : Int
  fr : Int
  b : Int
  l : List Stp
  f : Bool
def Ag.zero : Ag := ⟨0, ⟨#[]⟩, 0, 0, 0, 0, 0, [], false⟩
abbrev Ag.cs (r : Ag) (a : Option Addr) (c : Nat) : Array Value := #[.int .i64 r.k, .string r.nm, .int .i64 r.n, .int .i64 r.q, .int .i64 r.s, .slice a r.l.length c, .int .i64 r.fr, .int .i64 r.b]
def noneK (x : Int × Int × Int × Int × List Stp) : Bool := (x.1 == 0 && x.2.1 == 0) && decide (x.2.2.2.2.length = 0) && (x.2.2.1 == 0) && (x.2.2.2.1 == 0)
theorem noneK_key (p : Pt) : noneK p.key = p.none := rfl
def agK (ks : List (ByteArray × Int × (Int × Int × Int × Int × List Stp) × Int × (Int × Int × Int × Int × List Stp))) (nm : ByteArray) : Ag :=
  match ks.find? (fun k => decide (k.1 = nm)) with
  | none => .zero
  | some k => if noneK k.2.2.2.2 then .zero else ⟨2, nm, k.2.2.2.1, k.2.2.2.2.1, k.2.2.2.2.2.1, k.2.2.2.2.2.2.1, k.2.2.2.2.2.2.2.1, k.2.2.2.2.2.2.2.2, true⟩
def agOf (ts : List Hd) (nm : ByteArray) : Ag := agK (ts.map Hd.key) nm
theorem find_key (ts : List Hd) (nm : ByteArray) : (ts.map Hd.key).find? (fun k => decide (k.1 = nm)) = (ts.find? (hasN nm)).map Hd.key := by
  rw [List.find?_map]
  rfl
theorem agOf_none {ts : List Hd} {nm : ByteArray} (h : ts.find? (hasN nm) = none) : agOf ts nm = .zero := by
  unfold agOf agK; rw [find_key, h]; rfl
theorem agOf_nothing {ts : List Hd} {nm : ByteArray} {t : Hd} (h : ts.find? (hasN nm) = some t) (hn : t.x.none = true) : agOf ts nm = .zero := by
  unfold agOf agK; rw [find_key, h]
  show (if noneK t.x.key then _ else _) = _
  rw [noneK_key, hn]; rfl
theorem agOf_some {ts : List Hd} {nm : ByteArray} {t : Hd} (h : ts.find? (hasN nm) = some t) (hn : t.x.none = false) : agOf ts nm = ⟨2, nm, t.sn, t.x.q, t.x.s, t.x.fr, t.x.b, t.x.l, true⟩ := by
  unfold agOf agK; rw [find_key, h]
  show (if noneK t.x.key then _ else _) = _
  rw [noneK_key, hn]; rfl
theorem found_name {ts : List Hd} {nm : ByteArray} {t : Hd} (h : ts.find? (hasN nm) = some t) : t.nm = nm := by
  have := List.find?_some h
  simpa [hasN] using this
theorem agOf_len {ts : List Hd} {nm : ByteArray} (hs : ∀ t ∈ ts, t.x.l.length ≤ 1048576) : (agOf ts nm).l.length ≤ 1048576 := by
  cases h : ts.find? (hasN nm) with
  | none => rw [agOf_none h]; simp [Ag.zero]
  | some t =>
    cases hn : t.x.none with
    | true => rw [agOf_nothing h hn]; simp [Ag.zero]
    | false => rw [agOf_some h hn]; exact hs t (List.mem_of_find?_eq_some h)

theorem noneI_val (p : Pt) (v : Bool) (w : World) (hv : p.none = v) : Calls Try.prog 25 #[p.val] w fun e w' => e = .returned (.bool v) ∧ Below w.heap.size w w' := by rw [← hv]; exact noneI_any p w
theorem noneS_val (p : Pt) (v : Bool) (w : World) (hv : p.none = v) : Calls Try.prog 21 #[p.val] w fun e w' => e = .returned (.bool v) ∧ Below w.heap.size w w' := by rw [← hv]; exact noneS_any p w

/-- The blocks of a call: the book and the answer. -/
structure AgW (w W : World) (la : Int) (v : Value) : Prop where
  old : Below w.heap.size w W
  bk : W.heap[w.heap.size]? = some (.cells #[.int .i64 la, v] 37 (0, 0))
  res : W.heap[w.heap.size + 1]? = some (.cells #[.int .i64 0, .string ⟨#[]⟩, .int .i64 0, .int .i64 0, .int .i64 0, .slice none 0 0, .int .i64 0, .int .i64 0] 32 (0, 0))
theorem AgW.keep {w W W' : World} {la : Int} {v : Value} (h : AgW w W la v) (hb : Below W.heap.size W W') : AgW w W' la v :=
  ⟨h.old.trans (hb.mono h.old.size), (hb.block _ (lt_of_block h.bk)).trans h.bk, (hb.block _ (lt_of_block h.res)).trans h.res⟩
theorem AgW.new (w : World) (la : Int) (v : Value) : AgW w ((w.alloc (.cells #[.int .i64 la, v] 37)).alloc (.cells #[.int .i64 0, .string ⟨#[]⟩, .int .i64 0, .int .i64 0, .int .i64 0, .slice none 0 0, .int .i64 0, .int .i64 0] 32)) la v where
  old := bel2 _ _
  bk := (Below.heap_alloc _ _ _ (by simp)).trans (heap_alloc_new w _)
  res := by
    have := heap_alloc_new (w.alloc (.cells #[.int .i64 la, v] 37)) (.cells #[.int .i64 0, .string ⟨#[]⟩, .int .i64 0, .int .i64 0, .int .i64 0, .slice none 0 0, .int .i64 0, .int .i64 0] 32)
    rwa [World.size_alloc] at this

set_option maxRecDepth 20000 in
set_option maxHeartbeats 4000000 in
theorem againI_any (la : Int) (a : Option Addr) (b o cap : Nat) (ts : List Hd) (nm : ByteArray) (w : World) (hl : ts.length ≤ 1048576) (hsm : ∀ t ∈ ts, t.x.l.length ≤ 1048576) (hput : ∀ t ∈ ts, t.x.a = some ⟨t.x.b0, t.x.o, none⟩) (hs : HdsAt w a b o ts) :
    Calls Try.prog 8 #[.agg #[.int .i64 la, .slice a ts.length cap], .string nm] w
      fun e w' => ∃ x c, e = .returned (.tuple #[.agg ((agOf ts nm).cs x c), .bool (agOf ts nm).f]) ∧ w'.ownsRow w.heap.size 109 7 (.slice x (agOf ts nm).l.length c) (agOf ts nm).l.length (stepCells (agOf ts nm).l) ∧ Below w.heap.size w w' := by
  obtain ⟨W0, hW0⟩ : ∃ W0, (w.alloc (.cells #[.int .i64 la, .slice a ts.length cap] 37)).alloc (.cells #[.int .i64 0, .string ⟨#[]⟩, .int .i64 0, .int .i64 0, .int .i64 0, .slice none 0 0, .int .i64 0, .int .i64 0] 32) = W0 := ⟨_, rfl⟩
  have HP : Hid (∀ t ∈ ts, t.x.a = some ⟨t.x.b0, t.x.o, none⟩) := hput
  clear hput
  have P0 := AgW.new w la (.slice a ts.length cap)
  rw [hW0] at P0
  obtain ⟨x0, x1, xf⟩ := blk2 P0.bk
  go_enter Try.func8, Try.ntmps8
  go_wp2_with fail
  refine (placeOf_any la a b o cap ts nm _ hl (hs.below (by first | exact P0.old | (rw [hW0]; exact P0.old)))).mono ?_
  rintro e w1 ⟨p, rfl, hp, hb1⟩
  have P1 := P0.keep hb1
  clear hW0 x0 x1 xf P0 hb1
  have hfin : ∀ W : World, AgW w W la (.slice a ts.length cap) → w.heap.size + 1 < W.heap.size := fun W h => lt_of_block h.res
  rcases hp with ⟨rfl, hf⟩ | ⟨k, t, rfl, htk, hf⟩
  · have G : Hid (agOf ts nm = .zero) := agOf_none hf
    obtain ⟨⟨z0, z1, z2, z3, z4, z5, z6, z7⟩, zf⟩ := blk8 P1.res
    clear hf
    go_wp2
    refine bodyPost_ret (v := .tuple #[.agg #[.int .i64 0, .string ⟨#[]⟩, .int .i64 0, .int .i64 0, .int .i64 0, .slice none 0 0, .int .i64 0, .int .i64 0], .bool false]) (by simp [results, Try.results8, go_sem, *]) rfl ⟨none, 0, by rw [G.out]; rfl, by rw [G.out]; exact World.ownsRow_nil _ _ _ _, ?_⟩
    iterate 8 (refine Below.setCell ?_ (by simp) _)
    exact P1.old
  · have hlt : k < ts.length := (List.getElem?_eq_some_iff.1 htk).1
    have hne : ts ≠ [] := by intro e; subst e; simp at hlt
    have hm := List.mem_of_getElem? htk
    obtain rfl := hs.here hne
    obtain ⟨x0, x1, xf⟩ := blk2 P1.bk
    have hs1 := hs.below P1.old
    obtain ⟨c0, c1, c2, c3, c4, c5, c6, c7, c8, c9, c10, c11, c12⟩ := cl_cells (hs1.cell k t htk)
    have k0 : (0 : Int) ≤ (k : Int) := by omega
    have k1 : (k : Int) < (ts.length : Int) := by omega
    have k2 : ¬ (k : Int) < 0 := by omega
    cases hn : t.x.none with
    | true =>
      have G : Hid (agOf ts nm = .zero) := agOf_nothing hf hn
      have HN : Hid (t.x.none = true) := hn
      clear hf hn
      go_wp2_with fail
      refine (noneI_val t.x true _ HN.out).mono ?_
      rintro e w2 ⟨rfl, hb2⟩
      have P2 := P1.keep hb2
      obtain ⟨⟨z0, z1, z2, z3, z4, z5, z6, z7⟩, zf⟩ := blk8 P2.res
      go_wp2
      refine bodyPost_ret (v := .tuple #[.agg #[.int .i64 0, .string ⟨#[]⟩, .int .i64 0, .int .i64 0, .int .i64 0, .slice none 0 0, .int .i64 0, .int .i64 0], .bool false]) (by simp [results, Try.results8, go_sem, *]) rfl ⟨none, 0, by rw [G.out]; rfl, by rw [G.out]; exact World.ownsRow_nil _ _ _ _, ?_⟩
      iterate 8 (refine Below.setCell ?_ (by simp) _)
      exact P2.old
    | false =>
      have G : Hid (agOf ts nm = ⟨2, nm, t.sn, t.x.q, t.x.s, t.x.fr, t.x.b, t.x.l, true⟩) := agOf_some hf hn
      have HN : Hid (t.x.none = false) := hn
      have HNM : Hid (t.nm = nm) := found_name hf
      have HX : Hid (t.x.a = some ⟨t.x.b0, t.x.o, none⟩) := HP.out t hm
      have hxl := hsm t hm
      clear hf hn
      go_wp2_with fail
      refine (noneI_val t.x false _ HN.out).mono ?_
      rintro e w2 ⟨rfl, hb2⟩
      have P2 := P1.keep hb2
      have hs2 := hs1.below hb2
      clear x0 x1 xf c0 c1 c2 c3 c4 c5 c6 c7 c8 c9 c10 c11 c12
      obtain ⟨x0, x1, xf⟩ := blk2 P2.bk
      obtain ⟨c0, c1, c2, c3, c4, c5, c6, c7, c8, c9, c10, c11, c12⟩ := cl_cells (hs2.cell k t htk)
      clear P1 hs1 hb2
      go_wp2_with fail
      refine (sent_any t _).mono ?_
      rintro e w3 ⟨rfl, hb3⟩
      have P3 := P2.keep hb3
      have hx3 := (hs2.below hb3).each t hm |>.x
      have hm3 := method_word _ Try.underlying63 #[.string t.nm, .int .i64 t.sn, .int .i64 t.x.q, .int .i64 t.x.s, .slice t.x.a t.x.l.length t.x.cap, .int .i64 t.x.fr, .int .i64 t.x.b]
      have hwd := word_any t.nm t.sn t.x.q t.x.s t.x.fr t.x.b t.x.b0 t.x.o t.x.cap t.x.l w3 hxl (by have := hx3; unfold PtAt at this; rw [HX.out] at this; exact this)
      rw [← HX.out] at hwd
      clear P2 hs2 hb3 x0 x1 xf c0 c1 c2 c3 c4 c5 c6 c7 c8 c9 c10 c11 c12
      go_wp2_with fail
      refine hwd.mono ?_
      rintro e w4 ⟨a4, c4, rfl, o4, hb4⟩
      have P4 := P3.keep hb4
      have z3 := hfin w3 P3
      obtain ⟨⟨z0, z1, z2, z3', z4, z5, z6, z7⟩, zf⟩ := blk8 P4.res
      have zo := P3.old.size
      go_wp2
      refine bodyPost_ret (v := .tuple #[.agg #[.int .i64 2, .string t.nm, .int .i64 t.sn, .int .i64 t.x.q, .int .i64 t.x.s, .slice a4 t.x.l.length c4, .int .i64 t.x.fr, .int .i64 t.x.b], .bool true]) (by simp [results, Try.results8, go_sem, *]) rfl ⟨a4, c4, by rw [G.out, HNM.out], ?_, ?_⟩
      · rw [G.out]
        iterate 8 (refine owns_set ?_ (fun k e => by have := owns_base o4 k e; omega) _ _)
        exact owns_lowerL o4 zo
      · iterate 8 (refine Below.setCell ?_ (by simp) _)
        exact P4.old
end Go.Proofs.Ytfcobpaaeijkoaa
