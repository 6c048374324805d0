/- The program's LinkHear, by its contract. -/
import Derived.Test.YtfcobpaaeijkoaaLkHearI
namespace Go.Proofs.Ytfcobpaaeijkoaa
open Go.RowKit

/-- What LinkHear makes of a book, told by keys. -/
def hearK (ks : List HKey) (k : Int) (nm : ByteArray) (n : Int) : List HKey :=
  match ks.findIdx? (fun q => decide (q.1 = nm)) with
  | none => ks
  | some i => match ks[i]? with
    | none => ks
    | some h => hearAt ks i h k n
theorem findIdx_first {ts : List Hd} {nm : ByteArray} {i : Nat} {t : Hd} (ht : ts[i]? = some t) (hn : t.nm = nm) (h : NoneTo ts nm i) : (ts.map Hd.key).findIdx? (fun q => decide (q.1 = nm)) = some i := by
  rw [List.findIdx?_eq_some_iff_getElem]
  have hl := (List.getElem?_eq_some_iff.1 ht).1
  refine ⟨by rw [List.length_map]; exact hl, ?_, fun j hj => ?_⟩
  · rw [List.getElem_map]
    have : ts[i] = t := by rw [List.getElem?_eq_getElem hl] at ht; simpa using ht
    rw [this]
    simp [Hd.key, hn]
  · rw [List.getElem_map]
    have := h j ts[j] hj (List.getElem?_eq_getElem (by omega))
    simp [Hd.key, this]
theorem findIdx_none {ts : List Hd} {nm : ByteArray} (h : NoneTo ts nm ts.length) : (ts.map Hd.key).findIdx? (fun q => decide (q.1 = nm)) = none := by
  rw [List.findIdx?_eq_none_iff]
  intro q hq
  obtain ⟨t, ht, rfl⟩ := List.mem_map.1 hq
  obtain ⟨j, hj⟩ := List.mem_iff_getElem?.1 ht
  have := h j t (List.getElem?_eq_some_iff.1 hj).1 hj
  simp [Hd.key, this]
theorem hearK_none {ts : List Hd} {nm : ByteArray} {k n : Int} (h : NoneTo ts nm ts.length) : hearK (ts.map Hd.key) k nm n = ts.map Hd.key := by
  unfold hearK; rw [findIdx_none h]
theorem hearK_some {ts : List Hd} {nm : ByteArray} {k n : Int} {i : Nat} {t : Hd} (ht : ts[i]? = some t) (hn : t.nm = nm) (h : NoneTo ts nm i) : hearK (ts.map Hd.key) k nm n = hearAt (ts.map Hd.key) i t.key k n := by
  unfold hearK
  rw [findIdx_first ht hn h]
  simp only [List.getElem?_map, ht, Option.map_some]

set_option maxRecDepth 20000 in
set_option maxHeartbeats 2000000 in
theorem linkHearI_any (la : Int) (a : Option Addr) (b o cap : Nat) (ts : List Hd) (t : Wd) (w : World) (hl : ts.length ≤ 1048576) (hsm : ∀ t ∈ ts, t.p.l.length ≤ 1048576 ∧ t.x.l.length ≤ 1048576) (hput : ∀ t ∈ ts, t.p.a = some ⟨t.p.b0, t.p.o, none⟩ ∧ t.x.a = some ⟨t.x.b0, t.x.o, none⟩) (hs : HdsAt w a b o ts) :
    Calls Try.prog 17 #[.agg #[.int .i64 la, .slice a ts.length cap], t.val] w
      fun e w' => ∃ (v : Value) (us : List Hd), e = .returned (.agg #[.int .i64 la, v]) ∧ us.map Hd.key = hearK (ts.map Hd.key) t.k t.nm t.n ∧ BkOwn w' w.heap.size v us ∧ Below w.heap.size w w' := by
  have HPUT : Hid (∀ t ∈ ts, t.p.a = some ⟨t.p.b0, t.p.o, none⟩ ∧ t.x.a = some ⟨t.x.b0, t.x.o, none⟩) := hput
  clear hput
  obtain ⟨W0, hW0⟩ : ∃ W0, ((w.alloc (.cells #[.int .i64 la, .slice a ts.length cap] 37)).alloc (.cells #[.int .i64 t.k, .string t.nm, .int .i64 t.n, .int .i64 t.p.q, .int .i64 t.p.s, .slice t.p.a t.p.l.length t.p.cap, .int .i64 t.p.fr, .int .i64 t.p.b] 32)).alloc (.cells #[.int .i64 0, .slice none 0 0] 37) = W0 := ⟨_, rfl⟩
  have B0 : Below w.heap.size w W0 := by rw [← hW0]; exact bel3 _ _ _
  have A0 : Bx W0 w.heap.size #[.int .i64 la, .slice a ts.length cap] := by rw [← hW0]; exact ((Bx.new w #[.int .i64 la, .slice a ts.length cap] 37).keep (bel1 _)).keep (bel1 _)
  have T0 : Bx W0 (w.heap.size + 1) #[.int .i64 t.k, .string t.nm, .int .i64 t.n, .int .i64 t.p.q, .int .i64 t.p.s, .slice t.p.a t.p.l.length t.p.cap, .int .i64 t.p.fr, .int .i64 t.p.b] := by
    rw [← hW0]
    have h := (Bx.new (w.alloc (.cells #[.int .i64 la, .slice a ts.length cap] 37)) #[.int .i64 t.k, .string t.nm, .int .i64 t.n, .int .i64 t.p.q, .int .i64 t.p.s, .slice t.p.a t.p.l.length t.p.cap, .int .i64 t.p.fr, .int .i64 t.p.b] 32).keep (bel1 (.cells #[.int .i64 0, .slice none 0 0] 37))
    rwa [World.size_alloc] at h
  have R0 : Bx W0 (w.heap.size + 1 + 1) #[.int .i64 0, .slice none 0 0] := by
    rw [← hW0]
    have h := Bx.new ((w.alloc (.cells #[.int .i64 la, .slice a ts.length cap] 37)).alloc (.cells #[.int .i64 t.k, .string t.nm, .int .i64 t.n, .int .i64 t.p.q, .int .i64 t.p.s, .slice t.p.a t.p.l.length t.p.cap, .int .i64 t.p.fr, .int .i64 t.p.b] 32)) #[.int .i64 0, .slice none 0 0] 37
    rwa [World.size_alloc, World.size_alloc] at h
  have x0 : W0.cell? ⟨w.heap.size, 0, none⟩ = some (.int .i64 la) := A0.c 0
  have x1 : W0.cell? ⟨w.heap.size, 1, none⟩ = some (.slice a ts.length cap) := A0.c 1
  have zR := R0.lt
  go_enter Try.func17, Try.ntmps17
  go_wp2_with fail
  refine (copyBI_any la a b o cap ts _ hl hsm HPUT.out (hs.below B0)).mono ?_
  rintro e w1 ⟨v1, us, rfl, hk, X1, O1, hb1⟩
  have HK : Hid (us.map Hd.key = ts.map Hd.key) := hk
  have A1 := A0.keep hb1
  have T1 := T0.keep hb1
  have R1 := R0.keep hb1
  have B1 := B0.trans (hb1.mono B0.size)
  have HB1 : Hid (Below W0.heap.size W0 w1) := hb1
  clear hW0 x0 x1 hb1 hk A0 T0
  have x0 : w1.cell? ⟨w.heap.size, 0, none⟩ = some (.int .i64 la) := A1.c 0
  have x1 : w1.cell? ⟨w.heap.size, 1, none⟩ = some (.slice a ts.length cap) := A1.c 1
  have t1 : w1.cell? ⟨w.heap.size + 1, 1, none⟩ = some (.string t.nm) := T1.c 1
  go_wp2_with fail
  refine (placeOf_first la a b o cap ts t.nm _ hl (hs.below B1)).mono ?_
  rintro e w2 ⟨p, rfl, hp, hb2⟩
  have X2 := X1.keep hb2
  have T2 := T1.keep hb2
  have R2 := R1.keep hb2
  have O2 := O1.below hb2
  have B2 := B1.trans (hb2.mono B1.size)
  have zK : w.heap.size ≤ W0.heap.size + 1 := by omega
  have H2 : HrW W0 w2 (W0.heap.size + 1) (W0.heap.size + 1 + 1) la v1 us := ⟨HB1.out.trans (hb2.mono HB1.out.size), by omega, by omega, X2, O2⟩
  clear x0 x1 t1 X1 T1 R1 O1 B1 hb2
  have fin : ∀ (W : World) (v : Value) (us' : List Hd), HrW W0 W (W0.heap.size + 1) (W0.heap.size + 1 + 1) la v us' → BkOwn ((W.setCell ⟨w.heap.size + 1 + 1, 0, none⟩ (.int .i64 la)).setCell ⟨w.heap.size + 1 + 1, 1, none⟩ v) w.heap.size v us' ∧ Below w.heap.size w ((W.setCell ⟨w.heap.size + 1 + 1, 0, none⟩ (.int .i64 la)).setCell ⟨w.heap.size + 1 + 1, 1, none⟩ v) := fun W v us' h => by
    refine ⟨?_, ?_⟩
    · have hlt := h.own.lt
      refine ((h.own.spared (S := [w.heap.size + 1 + 1]) (Spared.trans (Spared.grown (grown_set _ _ _) (by simp)) (Spared.grown (grown_set _ _ _) (by simp))) (fun k hk hk' => ?_))).lower (by omega)
      simp at hk'
      have := (hlt k hk).1
      omega
    · iterate 2 (refine Below.setCell ?_ (by simp; omega) _)
      exact B0.trans (h.old.mono B0.size)
  rcases hp with ⟨rfl, hf⟩ | ⟨i, s, rfl, hsi, hsn, hf⟩
  · have G : Hid (hearK (ts.map Hd.key) t.k t.nm t.n = ts.map Hd.key) := hearK_none hf
    obtain ⟨a1, c1, rfl⟩ := own_slice O2.row
    have y0 : w2.cell? ⟨W0.heap.size + 1, 0, none⟩ = some (.int .i64 la) := X2.c 0
    have y1 : w2.cell? ⟨W0.heap.size + 1, 1, none⟩ = some (.slice a1 us.length c1) := X2.c 1
    have r0 : w2.cell? ⟨w.heap.size + 1 + 1, 0, none⟩ = some (.int .i64 0) := R2.c 0
    have r1 : w2.cell? ⟨w.heap.size + 1 + 1, 1, none⟩ = some (.slice none 0 0) := R2.c 1
    have rf := R2.f
    obtain ⟨f1, f2⟩ := fin w2 _ us H2
    have F1 : Hid (BkOwn ((w2.setCell ⟨w.heap.size + 1 + 1, 0, none⟩ (.int .i64 la)).setCell ⟨w.heap.size + 1 + 1, 1, none⟩ (.slice a1 us.length c1)) w.heap.size (.slice a1 us.length c1) us) := f1
    clear hf f1
    go_wp2
    refine bodyPost_ret (v := .agg #[.int .i64 la, .slice a1 us.length c1]) (by simp [results, Try.results17, go_sem, *]) rfl ⟨_, us, rfl, by rw [G.out]; exact HK.out, F1.out, f2⟩
  · have G : Hid (hearK (ts.map Hd.key) t.k t.nm t.n = hearAt (ts.map Hd.key) i s.key t.k t.n) := hearK_some hsi hsn hf
    have hil : i < ts.length := (List.getElem?_eq_some_iff.1 hsi).1
    have hul : us.length = ts.length := len_keys HK.out
    obtain ⟨u, hu⟩ : ∃ u, us[i]? = some u := ⟨us[i]'(by omega), List.getElem?_eq_getElem _⟩
    have EK : Hid (u.key = s.key) := by
      have e := congrArg (fun l => l[i]?) HK.out
      simp only [List.getElem?_map, hu, hsi, Option.map_some, Option.some.injEq] at e
      exact e
    have hue : us.length ≤ 1048576 := by omega
    obtain ⟨g, c1, rfl, _, _⟩ := owns_some O2.row (by omega)
    have ip : ¬ ((i : Int) < 0) := by omega
    have ip' : (0 : Int) ≤ (i : Int) := by omega
    have s0 : w2.cell? ⟨w.heap.size + 1, 0, none⟩ = some (.int .i64 t.k) := T2.c 0
    have s1 : w2.cell? ⟨w.heap.size + 1, 1, none⟩ = some (.string t.nm) := T2.c 1
    have s2 : w2.cell? ⟨w.heap.size + 1, 2, none⟩ = some (.int .i64 t.n) := T2.c 2
    have s3 : w2.cell? ⟨w.heap.size + 1, 3, none⟩ = some (.int .i64 t.p.q) := T2.c 3
    have s4 : w2.cell? ⟨w.heap.size + 1, 4, none⟩ = some (.int .i64 t.p.s) := T2.c 4
    have s5 : w2.cell? ⟨w.heap.size + 1, 5, none⟩ = some (.slice t.p.a t.p.l.length t.p.cap) := T2.c 5
    have s6 : w2.cell? ⟨w.heap.size + 1, 6, none⟩ = some (.int .i64 t.p.fr) := T2.c 6
    have s7 : w2.cell? ⟨w.heap.size + 1, 7, none⟩ = some (.int .i64 t.p.b) := T2.c 7
    have HU : Hid (us[i]? = some u) := hu
    have R2' : Hid (Bx w2 (w.heap.size + 1 + 1) #[.int .i64 0, .slice none 0 0]) := R2
    have Z2 : Hid (w.heap.size + 1 + 1 < W0.heap.size) := zR
    clear hu hsi hf hul R2
    go_wp2_with fail
    refine (hearI_at t W0 w2 (W0.heap.size + 1) (W0.heap.size + 1 + 1) i g c1 la us u hue H2 HU.out).mono ?_
    rintro e w3 ⟨rfl, v3, us3, H3, hk3⟩
    have HK3 : Hid (us3.map Hd.key = hearAt (us.map Hd.key) i u.key t.k t.n) := hk3
    obtain ⟨a3, c3, rfl⟩ := own_slice H3.own.row
    have R3 := R0.keep H3.old
    have y0 : w3.cell? ⟨W0.heap.size + 1, 0, none⟩ = some (.int .i64 la) := H3.bk.c 0
    have y1 : w3.cell? ⟨W0.heap.size + 1, 1, none⟩ = some (.slice a3 us3.length c3) := H3.bk.c 1
    have r0 : w3.cell? ⟨w.heap.size + 1 + 1, 0, none⟩ = some (.int .i64 0) := R3.c 0
    have r1 : w3.cell? ⟨w.heap.size + 1 + 1, 1, none⟩ = some (.slice none 0 0) := R3.c 1
    have rf := R3.f
    obtain ⟨f1, f2⟩ := fin w3 _ us3 H3
    have F1 : Hid (BkOwn ((w3.setCell ⟨w.heap.size + 1 + 1, 0, none⟩ (.int .i64 la)).setCell ⟨w.heap.size + 1 + 1, 1, none⟩ (.slice a3 us3.length c3)) w.heap.size (.slice a3 us3.length c3) us3) := f1
    clear f1 hk3 s0 s1 s2 s3 s4 s5 s6 s7 H2 O2 X2
    go_wp2
    refine bodyPost_ret (v := .agg #[.int .i64 la, .slice a3 us3.length c3]) (by simp [results, Try.results17, go_sem, *]) rfl ⟨_, us3, rfl, by rw [G.out, HK3.out, HK.out, EK.out], F1.out, f2⟩
end Go.Proofs.Ytfcobpaaeijkoaa
