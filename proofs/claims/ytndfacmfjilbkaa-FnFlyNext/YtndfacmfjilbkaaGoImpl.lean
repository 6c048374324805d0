/- The program's FlyGo, by its contract, over that of FlySpans. -/
import Derived.Test.YtndfacmfjilbkaaJ06
import Derived.Test.YtndfacmfjilbkaaNextFly
import Derived.Test.YtndfacmfjilbkaaJ07
namespace Go.Proofs.Ytndfacmfjilbkaa
open Go.RowKit

set_option maxRecDepth 20000 in
set_option maxHeartbeats 1000000 in
theorem clone_any (cb co ccap : Nat) (zs : List Int) (w : World) (hzl : zs.length ≤ 1048576) (hz : IntsAt w (some ⟨cb, co, none⟩) cb co zs) :
    Calls Try.prog 53 #[.slice (some ⟨cb, co, none⟩) zs.length ccap] w
      fun e w' => ∃ v, e = .returned v ∧ w'.ownsRow w.heap.size 3 1 v zs.length (intCells zs) ∧ Below w.heap.size w w' := by
  obtain ⟨i0, hi, hz0, hz1, hz2⟩ := info_parts int_info
  have hE := owns_empty (w := w) (base := w.heap.size) (e := 3) (size := 1) (Nat.le_refl _)
  have hnew := ints_news (hz.alloc (.cells #[] 3))
  have hnil := Lib.run_eql_slice_nil (P := Try.prog) w 28 3 (some ⟨cb, co, none⟩) zs.length ccap 0 0 Try.underlying28
  go_enter Try.func53, Try.ntmps53
  go_wp2_with (at_builtin; refine wpList_append_own _ rfl (.tmp 5) (.tmp 6) 28 rfl w.heap.size 3 i0 (.int .i64 0) 1 8 Try.underlying28 hi hz0 hz1 hz2 rfl (by decide) (.slice (some ⟨w.heap.size, 0, none⟩) 0 0) 0 [] rfl hE ⟨cb, co, none⟩ zs.length ccap (intCells zs) rfl (by rw [intCells_length, Nat.mul_one]) hnew (intCells_one zs) (by unfold maxLen; omega) (by omega) (by simp) ?_; intro v1 w1 hown1 hgrow1 hnil1)
  go_ret
  simp only [Nat.zero_add, List.nil_append] at hown1
  exact ⟨_, rfl, hown1, ((Below.refl w.heap.size w).alloc (Nat.le_refl _) _).grown hgrow1 (by simp) (fun k e => by simp [Value.ownBlock] at e; omega)⟩

theorem nearest_any (x y z : Int) (w : World) :
    Calls Try.prog 54 #[.agg #[.int .i64 x, .int .i64 y], .int .i64 z] w fun e w' => e = .returned (.int .i64 (mxB x (mnB z y))) ∧ Below w.heap.size w w' := by
  go_enter Try.func54, Try.ntmps54
  go_wp2
  all_goals rename_i h1
  · rw [if_pos h] at h1
    rw [mn_hi h, mx_hi h1]
    go_ret
    exact ⟨rfl, (Below.refl _ _).alloc (Nat.le_refl _) _⟩
  · rw [if_neg (by omega)] at h1
    rw [mn_lo h, mx_hi h1]
    go_ret
    exact ⟨rfl, (Below.refl _ _).alloc (Nat.le_refl _) _⟩
  · rw [if_pos h] at h1
    rw [mn_hi h, mx_lo h1]
    go_ret
    exact ⟨rfl, (Below.refl _ _).alloc (Nat.le_refl _) _⟩
  · rw [if_neg (by omega)] at h1
    rw [mn_lo h, mx_lo h1]
    go_ret
    exact ⟨rfl, (Below.refl _ _).alloc (Nat.le_refl _) _⟩

def lenOf : Value → Nat
  | .slice _ n _ => n
  | _ => 0

theorem owns_at {w w' : World} {base e size n : Nat} {v : Value} {xs : List Value} (h : w.ownsRow base e size v n xs) (hb : ∀ k, v.ownBlock = some k → w'.heap[k]? = w.heap[k]?) : w'.ownsRow base e size v n xs :=
  ⟨h.1, h.2.imp id fun ⟨g, cap, cur, h1, h2, h3, h4⟩ => ⟨g, cap, cur, h1, h2, (hb g (by rw [h1]; rfl)).trans h3, h4⟩⟩

/-- What the loop keeps: i ticks have come. -/
structure GoSt (w0 wr : World) (q s fr b : Int) (l : List Stp) (zs asks : List Int) (a : Option Addr) (cap db base g scap Bp Bo T : Nat) (i : Nat) (va v vb : Value) : Prop where
  ok : vb = .bool (goB q s fr b l (goAt q s fr b l zs asks i))
  all : ∀ j, j < i → goB q s fr b l (goAt q s fr b l zs asks j) = true
  old : Below w0.heap.size w0 wr
  path : PathAt wr w0.heap.size q s fr b (.slice a l.length cap)
  path2 : PathAt wr Bp q s fr b (.slice a l.length cap)
  span : wr.heap[T]? = some (.cells #[.int .i64 (goS q s fr b l (goAt q s fr b l zs asks i)).1, .int .i64 (goS q s fr b l (goAt q s fr b l zs asks i)).2] 38 (0, 0))
  row : wr.ownsRow (w0.heap.size + 1) 3 1 v (goAt q s fr b l zs asks i).length (intCells (goAt q s fr b l zs asks i))
  open_ : ∃ vo, Boxed wr Bo 31 vo ∧ OpenV wr q s fr b l base g scap (goAt q s fr b l zs asks i) vo
  left : ∃ d o c, va = .slice d (asks.drop i).length c ∧ (asks.drop i).length ≤ c ∧ IntsAt wr d db o (asks.drop i)

/-- What lies in memory while the loop goes on. -/
structure GoW (w0 W : World) (q s fr b : Int) (l : List Stp) (Fr Fo rest : List Int) (a : Option Addr) (cap db base g scap Bp Bo T : Nat) (y0 y1 : Int) (v : Value) (d : Option Addr) (o : Nat) : Prop where
  old : Below w0.heap.size w0 W
  path : PathAt W w0.heap.size q s fr b (.slice a l.length cap)
  path2 : PathAt W Bp q s fr b (.slice a l.length cap)
  span : W.heap[T]? = some (.cells #[.int .i64 y0, .int .i64 y1] 38 (0, 0))
  row : W.ownsRow (w0.heap.size + 1) 3 1 v Fr.length (intCells Fr)
  open_ : ∃ vo, Boxed W Bo 31 vo ∧ OpenV W q s fr b l base g scap Fo vo
  left : IntsAt W d db o rest
structure GoIdx (w0 : World) (rest : List Int) (db g Bp Bo T : Nat) : Prop where
  h1 : w0.heap.size < Bp
  h2 : Bp < g
  h3 : Bp < Bo
  h4 : g < T
  h5 : Bo < T
  h6 : rest ≠ [] → db < w0.heap.size

section
variable {w0 W W' : World} {q s fr b : Int} {l : List Stp} {Fr Fo rest : List Int} {a : Option Addr} {cap db base g scap Bp Bo T : Nat} {y0 y1 : Int} {v : Value} {d : Option Addr} {o : Nat}

theorem GoW.below (h : GoW w0 W q s fr b l Fr Fo rest a cap db base g scap Bp Bo T y0 y1 v d o) (hb : Below W.heap.size W W') : GoW w0 W' q s fr b l Fr Fo rest a cap db base g scap Bp Bo T y0 y1 v d o where
  old := h.old.trans (hb.mono h.old.size)
  path := h.path.keep hb h.path.lt
  path2 := h.path2.keep hb h.path2.lt
  span := blk2_kept h.span hb
  row := owns_below h.row hb
  open_ := by
    obtain ⟨vo, h1, h2⟩ := h.open_
    exact ⟨vo, boxed_below h1 hb, h2.keep (fun _ hl => hb.block g hl)⟩
  left := h.left.below hb h.left.lt
/-- Whatever is changed, the blocks that matter are not. -/
theorem GoW.kept (h : GoW w0 W q s fr b l Fr Fo rest a cap db base g scap Bp Bo T y0 y1 v d o) (ix : GoIdx w0 rest db g Bp Bo T) {Fr' Fo' : List Int} {v' : Value} (hold : Below w0.heap.size w0 W') (hs : W.heap.size ≤ W'.heap.size)
    (hk : ∀ i, i < w0.heap.size + 1 ∨ i = Bp ∨ i = T → i < W.heap.size → W'.heap[i]? = W.heap[i]?) (hrow : W'.ownsRow (w0.heap.size + 1) 3 1 v' Fr'.length (intCells Fr')) (hop : ∃ vo, Boxed W' Bo 31 vo ∧ OpenV W' q s fr b l base g scap Fo' vo) :
    GoW w0 W' q s fr b l Fr' Fo' rest a cap db base g scap Bp Bo T y0 y1 v' d o where
  old := hold
  path := ⟨(hk _ (.inl (by omega)) h.path.lt).trans h.path.it⟩
  path2 := ⟨(hk _ (.inr (.inl rfl)) h.path2.lt).trans h.path2.it⟩
  span := (hk _ (.inr (.inr rfl)) (lt_of_block h.span)).trans h.span
  row := hrow
  open_ := hop
  left := ⟨h.left.here, fun hl => Nat.lt_of_lt_of_le (h.left.lt hl) hs, fun i z hi => by
    have hne : rest ≠ [] := by intro e; subst e; simp at hi
    have h1 := ix.h6 hne
    exact (World.cell?_of_block (a := ⟨db, o + i, none⟩) (hk db (.inl (by omega)) (h.left.lt hne))).trans (h.left.cell i z hi)⟩
theorem GoW.append (h : GoW w0 W q s fr b l Fr Fo rest a cap db base g scap Bp Bo T y0 y1 v d o) (ix : GoIdx w0 rest db g Bp Bo T) {n : Int} {w6 : World} {v6 : Value}
    (hown : w6.ownsRow (w0.heap.size + 1) 3 1 v6 (Fr.length + 1) (intCells Fr ++ [.int .i64 n])) (hgrow : (W.alloc (.cells #[.int .i64 n] 3)).grownBy w6 v.ownBlock) : GoW w0 w6 q s fr b l (Fr ++ [n]) Fo rest a cap db base g scap Bp Bo T y0 y1 v6 d o := by
  have h' := h.below ((Below.refl W.heap.size W).alloc (Nat.le_refl _) (.cells #[.int .i64 n] 3))
  have hbase := owns_base h'.row
  have hne : ∀ i, i < w0.heap.size + 1 ∨ i = Bp ∨ i = T → i < (W.alloc (.cells #[.int .i64 n] 3)).heap.size → w6.heap[i]? = (W.alloc (.cells #[.int .i64 n] 3)).heap[i]? := fun i hi hl => hgrow.block i hl (fun e => by
    rcases hi with hi | rfl | rfl
    · have := hbase i e.symm; omega
    · exact row_ne h'.row h'.path2.it (by decide) e.symm
    · exact row_ne h'.row h'.span (by decide) e.symm)
  obtain ⟨vo, hb, ho⟩ := h'.open_
  refine h'.kept ix (h'.old.grown hgrow h'.old.size (fun k e => by have := hbase k e; omega)) hgrow.size hne ?_ ⟨vo, ?_, ?_⟩
  · rw [List.length_append, List.length_singleton, intCells_snoc]; exact hown
  · exact (hgrow.block _ hb.lt (fun e => row_ne h'.row hb (by decide) e.symm)).trans hb
  · refine ho.keep (fun hg hl => hgrow.block g hl (fun e => ?_))
    unfold OpenV at ho
    rw [if_pos hg] at ho
    exact row_ne_row h'.row ho.2 (by decide) e.symm
theorem GoW.clo (h : GoW w0 W q s fr b l Fr Fo rest a cap db base g scap Bp Bo T y0 y1 v d o) (ix : GoIdx w0 rest db g Bp Bo T) (hg : goB q s fr b l Fo = true) {Fo' : List Int} (hK : Kept2 g Bo W W') (hop : ∃ vo, Boxed W' Bo 31 vo ∧ OpenV W' q s fr b l base g scap Fo' vo) :
    GoW w0 W' q s fr b l Fr Fo' rest a cap db base g scap Bp Bo T y0 y1 v d o := by
  obtain ⟨vo, hb, ho⟩ := h.open_
  unfold OpenV at ho
  rw [if_pos hg] at ho
  have i1 := ix.h1
  have i2 := ix.h2
  have i3 := ix.h3
  have i4 := ix.h4
  have i5 := ix.h5
  refine h.kept ix (h.old.trans (hK.below h.old.size (by omega) (by omega))) hK.size (fun i hi hl => hK.block i hl (by omega) (by omega)) (owns_at h.row (fun k e => hK.block k (owns_lt h.row k e) (fun e2 => ?_) (fun e2 => ?_))) hop
  · subst e2; exact row_ne_row h.row ho.2 (by decide) e
  · subst e2; exact row_ne h.row hb (by decide) e
theorem GoW.put (h : GoW w0 W q s fr b l Fr Fo rest a cap db base g scap Bp Bo T y0 y1 v d o) (ix : GoIdx w0 rest db g Bp Bo T) (x0 x1 : Int) :
    GoW w0 ((W.setCell ⟨T, 0, none⟩ (.int .i64 x0)).setCell ⟨T, 1, none⟩ (.int .i64 x1)) q s fr b l Fr Fo rest a cap db base g scap Bp Bo T x0 x1 v d o := by
  have i1 := ix.h1
  have i2 := ix.h2
  have i3 := ix.h3
  have i4 := ix.h4
  have i5 := ix.h5
  have hk : ∀ i, i ≠ T → ((W.setCell ⟨T, 0, none⟩ (.int .i64 x0)).setCell ⟨T, 1, none⟩ (.int .i64 x1)).heap[i]? = W.heap[i]? := fun i hi => (heap_setCell_other _ ⟨T, 1, none⟩ i _ hi).trans (heap_setCell_other _ ⟨T, 0, none⟩ i _ hi)
  obtain ⟨vo, hb, ho⟩ := h.open_
  exact {
    old := (h.old.setCell (p := ⟨T, 0, none⟩) (by show w0.heap.size ≤ T; omega) _).setCell (p := ⟨T, 1, none⟩) (by show w0.heap.size ≤ T; omega) _
    path := ⟨(hk _ (by omega)).trans h.path.it⟩
    path2 := ⟨(hk _ (by omega)).trans h.path2.it⟩
    span := blk2_set1 (blk2_set0 h.span _) _
    row := owns_at h.row (fun k e => hk k (fun e2 => by subst e2; exact row_ne h.row h.span (by decide) e))
    open_ := ⟨vo, (hk _ (by omega)).trans hb, ho.keep (fun _ _ => hk g (by omega))⟩
    left := ⟨h.left.here, fun hl => by simpa [World.setCell] using h.left.lt hl, fun i z hi => by
      have hne : rest ≠ [] := by intro e; subst e; simp at hi
      have h1 := ix.h6 hne
      exact (World.cell?_of_block (a := ⟨db, o + i, none⟩) (hk db (by omega))).trans (h.left.cell i z hi)⟩ }
end

theorem ints_tail {w : World} {d : Option Addr} {db o : Nat} {z : Int} {zs : List Int} (h : IntsAt w d db o (z :: zs)) : IntsAt w (some ⟨db, o + 1, none⟩) db (o + 1) zs where
  here _ := rfl
  lt _ := h.lt (by simp)
  cell i y hi := by
    have := h.cell (i + 1) y (by simpa using hi)
    rw [show o + 1 + i = o + (i + 1) by omega]
    exact this

set_option maxRecDepth 20000 in
set_option maxHeartbeats 2000000 in
theorem flyGo_any (hI : SpansSaid) (hF : FollowSaid) (q s fr b : Int) (a : Option Addr) (b0 off cap : Nat) (l : List Stp) (cb co ccap : Nat) (zs : List Int) (d : Option Addr) (db do_ dcap : Nat) (asks : List Int) (w : World) (hl : l.length ≤ 1048576) (hzl : zs.length ≤ 1048576) (hal : asks.length ≤ 1048576) (hdc : asks.length ≤ dcap)
    (hs : StepsAt w a b0 off l) (hz : IntsAt w (some ⟨cb, co, none⟩) cb co zs) (ha : IntsAt w d db do_ asks) :
    Calls Try.prog 25 #[.agg #[.int .i64 q, .int .i64 s, .slice a l.length cap, .int .i64 fr, .int .i64 b], .slice (some ⟨cb, co, none⟩) zs.length ccap, .slice d asks.length dcap] w
      fun e w' => ∃ v, e = .returned (.tuple #[v, .bool (flownB q s fr b l zs asks)]) ∧ w'.ownsRow w.heap.size 3 1 v (flownL q s fr b l zs asks).length (intCells (flownL q s fr b l zs asks)) ∧ Below w.heap.size w w' := by
  obtain ⟨i0, hi, hz0, hz1, hz2⟩ := info_parts int_info
  have hP0 := PathAt.new w q s fr b (.slice a l.length cap)
  go_enter Try.func25, Try.ntmps25
  go_wp2_with fail
  refine (clone_any cb co ccap zs _ hzl (hz.alloc _)).mono ?_
  rintro e w1 ⟨v1, rfl, hown1, hb1⟩
  rw [World.size_alloc] at hown1 hb1
  have hP1 := hP0.keep hb1 (by omega)
  have hb01 : Below w.heap.size w w1 := ((Below.refl w.heap.size w).alloc (Nat.le_refl _) _).trans (hb1.mono (by omega))
  have zp1 := hP1.lt
  obtain ⟨⟨p0, p1, p2, p3, p4⟩, pf⟩ := hP1.cells
  obtain ⟨av, gv, cv, rfl, _, _⟩ := ints_owned hown1
  have hfl := owns_lt hown1
  clear hP0 hb1
  go_wp2_with fail
  refine (goingOn_any hI q s fr b a b0 off cap l w1 hl (hs.below hb01 hs.lt)).mono ?_
  rintro e w2 ⟨g, scap, Bo, vo, rfl, hb2, hQ2, hB2, hV2, k1, k2, k3, k4⟩
  have hP2 := hP1.keep hb2 zp1
  have hown2 := owns_below hown1 hb2
  have hb02 := hb01.trans (hb2.mono hb01.size)
  have hs2 := hs.below hb02 hs.lt
  have hz2' := hz.below hb02 hz.lt
  have hz1s := hb01.size
  clear hP1 hown1 hb2 p0 p1 p2 p3 p4 pf hb01
  have dd4 : l ≠ [] → b0 ≠ g ∧ b0 ≠ Bo := fun h => by have := hs.lt h; omega
  have HC := clo_any q s fr b a b0 off cap l (some ⟨cb, co, none⟩) cb co ccap zs _ g scap w1.heap.size Bo [] vo w2 hl hzl hs2 hz2' hQ2 hB2 hV2 (by omega) (by omega) k3 dd4 (fun h => by have := hz.lt h; omega) k4
  rw [List.nil_append] at HC
  go_wp2_with fail
  refine HC.mono ?_
  rintro e w3 ⟨rfl, hK3, v3, hB3, hV3⟩
  have hown3 : w3.ownsRow (w.heap.size + 1) 3 1 (.slice av zs.length cv) zs.length (intCells zs) := owns_at hown2 (fun k e => hK3.block k (by have := owns_lt hown2 k e; omega) (by have := hfl k e; omega) (by have := hfl k e; omega))
  have hP3 := hK3.path hP2 (by omega) (by omega)
  have hQ3 := hK3.path hQ2 (by omega) (by omega)
  have hb03 : Below w.heap.size w w3 := hb02.trans (hK3.below (by omega) (by omega) (by omega))
  have hk4 : g < w3.heap.size := Nat.lt_of_lt_of_le k4 hK3.size
  have hBl := hB3.lt
  have HE : Hid (goS q s fr b l zs = goS q s fr b l zs) := rfl
  obtain ⟨⟨y0, y1⟩, hy⟩ : ∃ y, goS q s fr b l zs = y := ⟨_, rfl⟩
  obtain ⟨yb, hyb⟩ : ∃ y, goB q s fr b l zs = y := ⟨_, rfl⟩
  rw [hy, hyb]
  have halT : Below w3.heap.size w3 (w3.alloc (.cells #[.int .i64 y0, .int .i64 y1] 38)) := (Below.refl w3.heap.size w3).alloc (Nat.le_refl _) _
  have HG0 : GoSt w (w3.alloc (.cells #[.int .i64 y0, .int .i64 y1] 38)) q s fr b l zs asks a cap db (w1.heap.size + 1) g scap w1.heap.size Bo w3.heap.size 0 (.slice d asks.length dcap) (.slice av zs.length cv) (.bool yb) := by
    refine ⟨by rw [show goAt q s fr b l zs asks 0 = zs from rfl, hyb], fun j hj => by omega, hb03.trans (halT.mono hb03.size), hP3.keep halT hP3.lt, hQ3.keep halT hQ3.lt, ?_, owns_below hown3 halT, ⟨v3, boxed_below hB3 halT, hV3.keep (fun _ h => halT.block g h)⟩, ⟨d, do_, dcap, by rw [List.drop_zero], by rw [List.drop_zero]; exact hdc, by rw [List.drop_zero]; exact ha.below (hb03.trans (halT.mono hb03.size)) ha.lt⟩⟩
    rw [show goAt q s fr b l zs asks 0 = zs from rfl, hy]
    exact heap_alloc_new w3 _
  clear HC hQ2 hB2 hV2 hP2 hown2 hb02 hs2 hz2' hK3 hB3 hV3 hown3 hP3 hQ3 hb03 halT HE
  go_wp2_with fail
  go_loopw [2, 8, 11] (fun va v vb wr => ∃ i : Nat, GoSt w wr q s fr b l zs asks a cap db (w1.heap.size + 1) g scap w1.heap.size Bo w3.heap.size i va v vb) (fun _ v _ _ => l.length + 2 - lenOf v)
  case atStart => exact ⟨0, HG0⟩
  case round =>
    clear HG0 hy hyb
    obtain ⟨i, st⟩ := hrel
    obtain ⟨F, hFd⟩ : ∃ F, goAt q s fr b l zs asks i = F := ⟨_, rfl⟩
    have row := st.row
    have span := st.span
    have ok := st.ok
    obtain ⟨vo, hBo, hVo⟩ := st.open_
    rw [hFd] at row span ok hVo
    subst ok
    obtain ⟨va', gf, vc, rfl, hv, _⟩ := ints_owned row
    obtain ⟨d', o', c', rfl, hc', hleft⟩ := st.left
    obtain ⟨⟨p0, p1, p2, p3, p4⟩, pf⟩ := st.path.cells
    cases hg : goB q s fr b l F with
    | false =>
      have HFN : Hid (goF q s fr b l zs asks = F) := by
        show _ = _
        rw [goF_is (n := i) (by rw [hFd]; exact hg) st.all, hFd]
      have hs3 := hs.below st.old hs.lt
      have hFl : F.length ≤ 1048576 := by
        rw [← hFd]
        cases i with
        | zero => exact hzl
        | succ j =>
          have h1 := goB_parts (st.all j (by omega))
          have h2 := path_len h1.1
          rw [goAt, List.length_append]
          simp
          omega
      have HL := lawful_any q s fr b a b0 off cap l va' gf 0 vc F wr hl hFl hs3 hv hF
      obtain ⟨lb, hlb⟩ : ∃ y, lawB q s fr b l F = y := ⟨_, rfl⟩
      rw [hlb] at HL
      have hb := st.old
      clear st hFd
      go_wp2_with fail
      refine HL.mono ?_
      rintro e w4 ⟨rfl, hb4⟩
      have hown4 := owns_below row hb4
      have hb04 := hb.trans (hb4.mono hb.size)
      clear hb4 HL hs3 p0 p1 p2 p3 p4 pf hb hv span row hVo hBo
      cases lb with
      | false =>
        have E : Hid (flownB q s fr b l zs asks = false) := by show _ = _; unfold flownB; rw [HFN.out]; exact hlb
        clear hlb
        go_wp2
        go_ret2
        refine ⟨_, by rw [E.out]; rfl, ?_, hb04⟩
        rw [flown_no E.out]
        exact World.ownsRow_nil _ _ _ _
      | true =>
        have E : Hid (flownB q s fr b l zs asks = true) := by show _ = _; unfold flownB; rw [HFN.out]; exact hlb
        have E2 : Hid (flownL q s fr b l zs asks = F) := by show _ = _; unfold flownL; rw [E.out, HFN.out]; rfl
        clear hlb
        go_wp2
        go_ret2
        refine ⟨_, by rw [E.out]; rfl, ?_, hb04⟩
        rw [E2.out]
        exact ⟨hown4.1, hown4.2.imp id fun ⟨g, cap, cur, h1, h2, h3⟩ => ⟨g, cap, cur, h1, by omega, h3⟩⟩
    | true =>
      have hgp := goB_parts hg
      have hFl := hgp.2.2.1
      have hll := path_len hgp.1
      obtain ⟨⟨y0, y1⟩, hy⟩ : ∃ y, goS q s fr b l F = y := ⟨_, rfl⟩
      rw [hy] at span
      have hyr : y0 ≤ y1 := by
        have h1 := open_range hg
        have h2 : goS q s fr b l F = openA q s fr b l l.length (fun i => F.getD i 0) F.length := by unfold goS; rw [if_pos hg]
        rw [← h2, hy] at h1
        exact h1.2.1
      have HALL : Hid (∀ j, j < i + 1 → goB q s fr b l (goAt q s fr b l zs asks j) = true) := by
        intro j hj
        by_cases e : j = i
        · subst e; rw [hFd]; exact hg
        · exact st.all j (by omega)
      have HNX : ∀ n, n = tickA (y0, y1) (asks.drop i) → goAt q s fr b l zs asks (i + 1) = F ++ [n] := fun n hn => by rw [goAt, hFd, hy, hn]
      obtain ⟨r0, r1, rf⟩ := blk2 span
      have hW : GoW w wr q s fr b l F F (asks.drop i) a cap db (w1.heap.size + 1) g scap w1.heap.size Bo w3.heap.size y0 y1 (.slice va' F.length vc) d' o' := ⟨st.old, st.path, st.path2, span, row, ⟨vo, hBo, hVo⟩, hleft⟩
      have hTl := lt_of_block span
      have hdrop : asks.drop (i + 1) = (asks.drop i).drop 1 := by rw [List.drop_drop]
      have hdb : asks ≠ [] → db < w.heap.size := ha.lt
      clear st hFd hy p0 p1 p2 p3 p4 pf hv hBo hVo row span hgp
      cases hd : asks.drop i with
      | nil =>
        have ix : GoIdx w (asks.drop (i + 1)) db g w1.heap.size Bo w3.heap.size := ⟨zp1, k1, k2, hk4, hBl, fun h => absurd (by rw [hdrop, hd]; rfl) h⟩
        rw [hd] at hc' hleft HNX
        have HTK : Hid (goAt q s fr b l zs asks (i + 1) = F ++ [y0]) := HNX y0 rfl
        have hW5 : GoW w wr q s fr b l F F (asks.drop (i + 1)) a cap db (w1.heap.size + 1) g scap w1.heap.size Bo w3.heap.size y0 y1 (.slice va' F.length vc) d' o' := by
          rw [hdrop]
          rw [hd] at hW ⊢
          exact hW
        have hd1 : (asks.drop (i + 1)).length = 0 := by rw [hdrop, hd]; rfl
        have HD : Hid ((asks.drop (i + 1)).length = 0) := hd1
        clear hW hdrop HNX hd1

        have hal5 : Below wr.heap.size wr (wr.alloc (.cells #[.int .i64 y0] 3)) := (Below.refl wr.heap.size wr).alloc (Nat.le_refl _) _
        have hown6 := owns_below hW5.row hal5
        have hnew6 : ∀ (j : Nat) (u : Value), [Value.int .i64 y0][j]? = some u → (wr.alloc (.cells #[.int .i64 y0] 3)).cell? ((⟨wr.heap.size, 0, none⟩ : Addr).add j) = some u := one_new wr _ _
        have zw5 : w.heap.size + 1 ≤ wr.heap.size := hW5.path.lt
        have HW5 : Hid (GoW w wr q s fr b l F F (asks.drop (i + 1)) a cap db (w1.heap.size + 1) g scap w1.heap.size Bo w3.heap.size y0 y1 (.slice va' F.length vc) d' o') := hW5
        clear hW5
        go_wp2_with (at_builtin; refine wpList_append_own _ rfl (.tmp 36) (.tmp 38) 28 rfl (w.heap.size + 1) 3 i0 (.int .i64 0) 1 8 Try.underlying28 hi hz0 hz1 hz2 rfl (by decide) _ F.length (intCells F) rfl hown6 ⟨wr.heap.size, 0, none⟩ 1 1 [.int .i64 y0] rfl rfl hnew6 (by simp [Value.oneCell']) (by unfold maxLen; omega) (by omega) (by simp; omega) ?_; intro v6 w6 hown7 hgrow7 hnil7)
        have hW6 := HW5.out.append ix hown7 hgrow7
        clear hown6 hnew6 hal5 hown7 hgrow7 hnil7
        have hW7 := hW6.below ((Below.refl w6.heap.size w6).alloc (Nat.le_refl _) (.cells #[.int .i64 y0] 3))
        obtain ⟨v6a, v6g, v6c, rfl, _, _⟩ := ints_owned hW7.row
        obtain ⟨vo7, hB7, hV7⟩ := hW7.open_
        have hz7 : IntsAt (w6.alloc (.cells #[.int .i64 y0] 3)) (some ⟨w6.heap.size, 0, none⟩) w6.heap.size 0 [y0] := ⟨fun _ => rfl, fun _ => by simp, fun j z hj => by
          rcases j with _ | j
          · simp at hj; subst hj; simp [go_sem]
          · simp at hj⟩
        have sz6 : g < w6.heap.size ∧ Bo < w6.heap.size := by have := lt_of_block hW6.span; omega
        refine (clo_any q s fr b a b0 off cap l (some ⟨w6.heap.size, 0, none⟩) w6.heap.size 0 1 [y0] (w1.heap.size + 1) g scap w1.heap.size Bo F vo7 (w6.alloc (.cells #[.int .i64 y0] 3)) hl (by simp) (hs.below hW7.old hs.lt) hz7 hW7.path2 hB7 hV7 (by omega) (by omega) (fun h => k3 (goB_mono (cs := []) F h)) dd4 (fun _ => by omega) (by simp; omega)).mono ?_
        rintro e w8 ⟨rfl, hK8, hop8⟩
        have hW8 := hW7.clo ix hg hK8 hop8
        obtain ⟨⟨x0, x1⟩, hx⟩ : ∃ y, goS q s fr b l (F ++ [y0]) = y := ⟨_, rfl⟩
        obtain ⟨xb, hxb⟩ : ∃ y, goB q s fr b l (F ++ [y0]) = y := ⟨_, rfl⟩
        rw [hx, hxb]
        have HW9 : Hid (GoW w ((w8.setCell ⟨w3.heap.size, 0, none⟩ (.int .i64 x0)).setCell ⟨w3.heap.size, 1, none⟩ (.int .i64 x1)) q s fr b l (F ++ [y0]) (F ++ [y0]) (asks.drop (i + 1)) a cap db (w1.heap.size + 1) g scap w1.heap.size Bo w3.heap.size x0 x1 (.slice v6a (F ++ [y0]).length v6c) d' o') := hW8.put ix x0 x1
        have HX : Hid (goS q s fr b l (F ++ [y0]) = (x0, x1) ∧ goB q s fr b l (F ++ [y0]) = xb) := ⟨hx, hxb⟩
        obtain ⟨r0, r1, rf⟩ := blk2 hW8.span
        clear hW8 hW7 hW6 hB7 hV7 hz7 hK8 hop8 hx hxb
        go_wp2
        go_roundw
        case rel =>
          have hW9 := HW9.out
          exact ⟨i + 1, by rw [HTK.out, HX.out.2], HALL.out, hW9.old, hW9.path, hW9.path2, by rw [HTK.out, HX.out.1]; exact hW9.span, by rw [HTK.out, show (F ++ [y0]).length = F.length + 1 by simp]; have hr9 := hW9.row; rw [show (F ++ [y0]).length = F.length + 1 by simp] at hr9; exact hr9, by rw [HTK.out]; exact hW9.open_, ⟨d', o', c', by rw [HD.out], by rw [HD.out]; omega, hW9.left⟩⟩
        case measure => simp [lenOf]; omega
      | cons z rest =>
        have hne : asks ≠ [] := by intro e; subst e; simp at hd
        have hrest : asks.drop (i + 1) = rest := by rw [hdrop, hd]; rfl
        have ix : GoIdx w (asks.drop (i + 1)) db g w1.heap.size Bo w3.heap.size := ⟨zp1, k1, k2, hk4, hBl, fun _ => hdb hne⟩
        rw [hd] at hc' hleft HNX hW
        obtain rfl := hleft.here (by simp)
        obtain ⟨n2, hn2⟩ : ∃ n2, mxB y0 (mnB z y1) = n2 := ⟨_, rfl⟩
        have HTK : Hid (goAt q s fr b l zs asks (i + 1) = F ++ [n2]) := HNX n2 (by rw [← hn2]; exact clampB_other (x := (y0, y1)) hyr z)
        have zc := hleft.cell 0 z rfl
        have hdl := hleft.lt (by simp)
        rw [Nat.add_zero] at zc
        simp only [List.length_cons] at hc'
        have NR : ∀ (u : Cls wr), Calls Try.prog 54 #[.agg #[.int .i64 y0, .int .i64 y1], .int .i64 z] u.it fun e w' => e = .returned (.int .i64 n2) ∧ Below u.it.heap.size u.it w' := fun u => by rw [← hn2]; exact nearest_any _ _ _ _
        have qn := Cls.any wr
        have q1 := Cls.cell hdl
        have q2 := Cls.cell hTl
        have HWR : Hid (GoW w wr q s fr b l F F (z :: rest) a cap db (w1.heap.size + 1) g scap w1.heap.size Bo w3.heap.size y0 y1 (.slice va' F.length vc) (some ⟨db, o', none⟩) o') := hW
        have HR : Hid (asks.drop (i + 1) = rest) := hrest
        have mp : (0 : Int) < (rest.length : Int) + 1 := by omega
        clear hW hdrop HNX hn2 hrest hd
        by_cases hc1 : c' = 1
        · have hr0 : rest = [] := List.eq_nil_of_length_eq_zero (by omega)
          subst hr0
          have hw5 : ∀ (u : Cls wr), GoW w u.it q s fr b l F F (asks.drop (i + 1)) a cap db (w1.heap.size + 1) g scap w1.heap.size Bo w3.heap.size y0 y1 (.slice va' F.length vc) (some ⟨db, o', none⟩) o' := fun u => by
            have h5 := HWR.out.below u.same
            rw [HR.out]
            exact ⟨h5.old, h5.path, h5.path2, h5.span, h5.row, h5.open_, ⟨fun h => absurd rfl h, fun h => absurd rfl h, fun j y hj => by simp at hj⟩⟩
          go_wp2
          refine wp_region_cls (by kernel_rfl) (by kernel_rfl) ?_
          repeat (go_big_quiet_step ((go_at_call 54; exact Calls.cls_of (NR _))))
          refine wpQuiet_nil ?_
          rintro _ ⟨u, rfl⟩
          have hW5 := hw5 u
          clear qn q1 q2 NR hw5 zc r0 r1 rf
          generalize u.it = W5 at *
          have hal5 : Below W5.heap.size W5 (W5.alloc (.cells #[.int .i64 n2] 3)) := (Below.refl W5.heap.size W5).alloc (Nat.le_refl _) _
          have hown6 := owns_below hW5.row hal5
          have hnew6 : ∀ (j : Nat) (u : Value), [Value.int .i64 n2][j]? = some u → (W5.alloc (.cells #[.int .i64 n2] 3)).cell? ((⟨W5.heap.size, 0, none⟩ : Addr).add j) = some u := one_new W5 _ _
          have zw5 : w.heap.size + 1 ≤ W5.heap.size := hW5.path.lt
          have HW5 : Hid (GoW w W5 q s fr b l F F (asks.drop (i + 1)) a cap db (w1.heap.size + 1) g scap w1.heap.size Bo w3.heap.size y0 y1 (.slice va' F.length vc) (some ⟨db, o', none⟩) o') := hW5
          clear hW5
          go_wp2_with (at_builtin; refine wpList_append_own _ rfl (.tmp 36) (.tmp 38) 28 rfl (w.heap.size + 1) 3 i0 (.int .i64 0) 1 8 Try.underlying28 hi hz0 hz1 hz2 rfl (by decide) _ F.length (intCells F) rfl hown6 ⟨W5.heap.size, 0, none⟩ 1 1 [.int .i64 n2] rfl rfl hnew6 (by simp [Value.oneCell']) (by unfold maxLen; omega) (by omega) (by simp; omega) ?_; intro v6 w6 hown7 hgrow7 hnil7)
          have hW6 := HW5.out.append ix hown7 hgrow7
          clear hown6 hnew6 hal5 hown7 hgrow7 hnil7
          have hW7 := hW6.below ((Below.refl w6.heap.size w6).alloc (Nat.le_refl _) (.cells #[.int .i64 n2] 3))
          obtain ⟨v6a, v6g, v6c, rfl, _, _⟩ := ints_owned hW7.row
          obtain ⟨vo7, hB7, hV7⟩ := hW7.open_
          have hz7 : IntsAt (w6.alloc (.cells #[.int .i64 n2] 3)) (some ⟨w6.heap.size, 0, none⟩) w6.heap.size 0 [n2] := ⟨fun _ => rfl, fun _ => by simp, fun j z hj => by
            rcases j with _ | j
            · simp at hj; subst hj; simp [go_sem]
            · simp at hj⟩
          have sz6 : g < w6.heap.size ∧ Bo < w6.heap.size := by have := lt_of_block hW6.span; omega
          refine (clo_any q s fr b a b0 off cap l (some ⟨w6.heap.size, 0, none⟩) w6.heap.size 0 1 [n2] (w1.heap.size + 1) g scap w1.heap.size Bo F vo7 (w6.alloc (.cells #[.int .i64 n2] 3)) hl (by simp) (hs.below hW7.old hs.lt) hz7 hW7.path2 hB7 hV7 (by omega) (by omega) (fun h => k3 (goB_mono (cs := []) F h)) dd4 (fun _ => by omega) (by simp; omega)).mono ?_
          rintro e w8 ⟨rfl, hK8, hop8⟩
          have hW8 := hW7.clo ix hg hK8 hop8
          obtain ⟨⟨x0, x1⟩, hx⟩ : ∃ y, goS q s fr b l (F ++ [n2]) = y := ⟨_, rfl⟩
          obtain ⟨xb, hxb⟩ : ∃ y, goB q s fr b l (F ++ [n2]) = y := ⟨_, rfl⟩
          rw [hx, hxb]
          have HW9 : Hid (GoW w ((w8.setCell ⟨w3.heap.size, 0, none⟩ (.int .i64 x0)).setCell ⟨w3.heap.size, 1, none⟩ (.int .i64 x1)) q s fr b l (F ++ [n2]) (F ++ [n2]) (asks.drop (i + 1)) a cap db (w1.heap.size + 1) g scap w1.heap.size Bo w3.heap.size x0 x1 (.slice v6a (F ++ [n2]).length v6c) (some ⟨db, o', none⟩) o') := hW8.put ix x0 x1
          have HX : Hid (goS q s fr b l (F ++ [n2]) = (x0, x1) ∧ goB q s fr b l (F ++ [n2]) = xb) := ⟨hx, hxb⟩
          obtain ⟨r0, r1, rf⟩ := blk2 hW8.span
          clear hW8 hW7 hW6 hB7 hV7 hz7 hK8 hop8 hx hxb
          go_wp2
          go_roundw
          case rel =>
            have hW9 := HW9.out
            exact ⟨i + 1, by rw [HTK.out, HX.out.2], HALL.out, hW9.old, hW9.path, hW9.path2, by rw [HTK.out, HX.out.1]; exact hW9.span, by rw [HTK.out, show (F ++ [n2]).length = F.length + 1 by simp]; have hr9 := hW9.row; rw [show (F ++ [n2]).length = F.length + 1 by simp] at hr9; exact hr9, by rw [HTK.out]; exact hW9.open_, ⟨(some ⟨db, o', none⟩), o', 0, by rw [HR.out]; rfl, by rw [HR.out]; exact Nat.le_refl _, hW9.left⟩⟩
          case measure => simp [lenOf]; omega
        · have hw5 : ∀ (u : Cls wr), GoW w u.it q s fr b l F F (asks.drop (i + 1)) a cap db (w1.heap.size + 1) g scap w1.heap.size Bo w3.heap.size y0 y1 (.slice va' F.length vc) (some ⟨db, o' + 1, none⟩) (o' + 1) := fun u => by
            have h5 := HWR.out.below u.same
            rw [HR.out]
            exact ⟨h5.old, h5.path, h5.path2, h5.span, h5.row, h5.open_, ints_tail h5.left⟩
          go_wp2
          refine wp_region_cls (by kernel_rfl) (by kernel_rfl) ?_
          repeat (go_big_quiet_step ((go_at_call 54; exact Calls.cls_of (NR _))))
          refine wpQuiet_nil ?_
          rintro _ ⟨u, rfl⟩
          have hW5 := hw5 u
          clear qn q1 q2 NR hw5 zc r0 r1 rf
          generalize u.it = W5 at *
          have hal5 : Below W5.heap.size W5 (W5.alloc (.cells #[.int .i64 n2] 3)) := (Below.refl W5.heap.size W5).alloc (Nat.le_refl _) _
          have hown6 := owns_below hW5.row hal5
          have hnew6 : ∀ (j : Nat) (u : Value), [Value.int .i64 n2][j]? = some u → (W5.alloc (.cells #[.int .i64 n2] 3)).cell? ((⟨W5.heap.size, 0, none⟩ : Addr).add j) = some u := one_new W5 _ _
          have zw5 : w.heap.size + 1 ≤ W5.heap.size := hW5.path.lt
          have HW5 : Hid (GoW w W5 q s fr b l F F (asks.drop (i + 1)) a cap db (w1.heap.size + 1) g scap w1.heap.size Bo w3.heap.size y0 y1 (.slice va' F.length vc) (some ⟨db, o' + 1, none⟩) (o' + 1)) := hW5
          clear hW5
          go_wp2_with (at_builtin; refine wpList_append_own _ rfl (.tmp 36) (.tmp 38) 28 rfl (w.heap.size + 1) 3 i0 (.int .i64 0) 1 8 Try.underlying28 hi hz0 hz1 hz2 rfl (by decide) _ F.length (intCells F) rfl hown6 ⟨W5.heap.size, 0, none⟩ 1 1 [.int .i64 n2] rfl rfl hnew6 (by simp [Value.oneCell']) (by unfold maxLen; omega) (by omega) (by simp; omega) ?_; intro v6 w6 hown7 hgrow7 hnil7)
          have hW6 := HW5.out.append ix hown7 hgrow7
          clear hown6 hnew6 hal5 hown7 hgrow7 hnil7
          have hW7 := hW6.below ((Below.refl w6.heap.size w6).alloc (Nat.le_refl _) (.cells #[.int .i64 n2] 3))
          obtain ⟨v6a, v6g, v6c, rfl, _, _⟩ := ints_owned hW7.row
          obtain ⟨vo7, hB7, hV7⟩ := hW7.open_
          have hz7 : IntsAt (w6.alloc (.cells #[.int .i64 n2] 3)) (some ⟨w6.heap.size, 0, none⟩) w6.heap.size 0 [n2] := ⟨fun _ => rfl, fun _ => by simp, fun j z hj => by
            rcases j with _ | j
            · simp at hj; subst hj; simp [go_sem]
            · simp at hj⟩
          have sz6 : g < w6.heap.size ∧ Bo < w6.heap.size := by have := lt_of_block hW6.span; omega
          refine (clo_any q s fr b a b0 off cap l (some ⟨w6.heap.size, 0, none⟩) w6.heap.size 0 1 [n2] (w1.heap.size + 1) g scap w1.heap.size Bo F vo7 (w6.alloc (.cells #[.int .i64 n2] 3)) hl (by simp) (hs.below hW7.old hs.lt) hz7 hW7.path2 hB7 hV7 (by omega) (by omega) (fun h => k3 (goB_mono (cs := []) F h)) dd4 (fun _ => by omega) (by simp; omega)).mono ?_
          rintro e w8 ⟨rfl, hK8, hop8⟩
          have hW8 := hW7.clo ix hg hK8 hop8
          obtain ⟨⟨x0, x1⟩, hx⟩ : ∃ y, goS q s fr b l (F ++ [n2]) = y := ⟨_, rfl⟩
          obtain ⟨xb, hxb⟩ : ∃ y, goB q s fr b l (F ++ [n2]) = y := ⟨_, rfl⟩
          rw [hx, hxb]
          have HW9 : Hid (GoW w ((w8.setCell ⟨w3.heap.size, 0, none⟩ (.int .i64 x0)).setCell ⟨w3.heap.size, 1, none⟩ (.int .i64 x1)) q s fr b l (F ++ [n2]) (F ++ [n2]) (asks.drop (i + 1)) a cap db (w1.heap.size + 1) g scap w1.heap.size Bo w3.heap.size x0 x1 (.slice v6a (F ++ [n2]).length v6c) (some ⟨db, o' + 1, none⟩) (o' + 1)) := hW8.put ix x0 x1
          have HX : Hid (goS q s fr b l (F ++ [n2]) = (x0, x1) ∧ goB q s fr b l (F ++ [n2]) = xb) := ⟨hx, hxb⟩
          obtain ⟨r0, r1, rf⟩ := blk2 hW8.span
          clear hW8 hW7 hW6 hB7 hV7 hz7 hK8 hop8 hx hxb
          go_wp2
          go_roundw
          case rel =>
            have hW9 := HW9.out
            exact ⟨i + 1, by rw [HTK.out, HX.out.2], HALL.out, hW9.old, hW9.path, hW9.path2, by rw [HTK.out, HX.out.1]; exact hW9.span, by rw [HTK.out, show (F ++ [n2]).length = F.length + 1 by simp]; have hr9 := hW9.row; rw [show (F ++ [n2]).length = F.length + 1 by simp] at hr9; exact hr9, by rw [HTK.out]; exact hW9.open_, ⟨(some ⟨db, o' + 1, none⟩), (o' + 1), c' - 1, by rw [HR.out], by rw [HR.out]; omega, hW9.left⟩⟩
          case measure => simp [lenOf]; omega
end Go.Proofs.Ytndfacmfjilbkaa
