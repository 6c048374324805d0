/- What the copy of a book is made of. -/
import Derived.Maps.AppendAt
import Derived.Test.YtfmdejilhbankaaGreatLkHeldS
import Derived.Test.YtfmdejilhbankaaGreatLkLawB
namespace Go.Proofs.YtfmdejilhbankaaGreat
open Go.RowKit

theorem cl_newL (W : World) (u : Hd) (T : TypeId) : ∀ j v, u.cl[j]? = some v → (W.alloc (.cells #[.string u.nm, .int .i64 u.n, .int .i64 u.p.q, .int .i64 u.p.s, .slice u.p.a u.p.l.length u.p.cap, .int .i64 u.p.fr, .int .i64 u.p.b, .int .i64 u.sn, .int .i64 u.x.q, .int .i64 u.x.s, .slice u.x.a u.x.l.length u.x.cap, .int .i64 u.x.fr, .int .i64 u.x.b] T)).cell? ((⟨W.heap.size, 0, none⟩ : Addr).add j) = some v := by
  intro j v hj
  have hn := HdIn.new W u T
  rw [Addr.add_mid]
  exact hn.cs j v hj
theorem cl_one (u : Hd) : ∀ v ∈ u.cl, v.oneCell' = true := by
  intro v hv
  simp only [Hd.cl, List.mem_cons, List.not_mem_nil, or_false] at hv
  rcases hv with rfl | rfl | rfl | rfl | rfl | rfl | rfl | rfl | rfl | rfl | rfl | rfl | rfl <;> rfl
theorem keys_push {ts us : List Hd} {k : Nat} {t u : Hd} (h : us.map Hd.key = (ts.take k).map Hd.key) (ht : ts[k]? = some t) (hu : u.key = t.key) : (us ++ [u]).map Hd.key = (ts.take (k + 1)).map Hd.key := by
  rw [List.take_add_one, ht, List.map_append, List.map_append, h]
  simp [hu]
theorem keys_len {ts us : List Hd} {k : Nat} (h : us.map Hd.key = (ts.take k).map Hd.key) (hk : k ≤ ts.length) : us.length = k := by
  have := congrArg List.length h
  simp at this
  omega

/-- The blocks of the call: the book, the answer, what has been laid up to now. -/
structure CbW (w wr : World) (la : Int) (va v : Value) (us : List Hd) : Prop where
  old : Below w.heap.size w wr
  arg : Cbx wr w.heap.size #[.int .i64 la, va]
  res : Cbx wr (w.heap.size + 1) #[.int .i64 0, .slice none 0 0]
  bk : Cbx wr (w.heap.size + 1 + 1) #[.int .i64 la, v]
  own : BkOwn wr (w.heap.size + 1 + 1 + 1) v us
theorem CbW.keep {w wr w2 : World} {la : Int} {va v : Value} {us : List Hd} (h : CbW w wr la va v us) (hb : Below wr.heap.size wr w2) : CbW w w2 la va v us :=
  ⟨h.old.trans (hb.mono h.old.size), h.arg.keep hb, h.res.keep hb, h.bk.keep hb, h.own.below hb⟩
theorem CbW.grow {w W w' : World} {la : Int} {va v : Value} {us : List Hd} (h : CbW w W la va v us) (hg : W.grownBy w' v.ownBlock) : Cbx w' w.heap.size #[.int .i64 la, va] ∧ Cbx w' (w.heap.size + 1) #[.int .i64 0, .slice none 0 0] ∧ Cbx w' (w.heap.size + 1 + 1) #[.int .i64 la, v] := by
  have hs : Spared v.ownBlock.toList W w' := Spared.grown hg (by simp)
  have hb := owns_base h.own.row
  exact ⟨h.arg.spared hs (fun e => by have := hb _ (by simpa using e); omega), h.res.spared hs (fun e => by have := hb _ (by simpa using e); omega), h.bk.spared hs (fun e => by have := hb _ (by simpa using e); omega)⟩
theorem CbW.push {w W w' : World} {la : Int} {va v v' : Value} {us : List Hd} {u : Hd} (h : CbW w W la va v us) (ho : w'.ownsRow (w.heap.size + 1 + 1 + 1) 52 13 v' (us.length + 1) (hdCells us ++ u.cl)) (hg : W.grownBy w' v.ownBlock) (hu : HdOwn W (w.heap.size + 1 + 1 + 1) u) (ha : ∀ t ∈ us, HdApart t u) :
    CbW w (w'.setCell ⟨w.heap.size + 1 + 1, 1, none⟩ v') la va v' (us ++ [u]) := by
  have hbase := owns_base h.own.row
  obtain ⟨g0, g1, g2⟩ := h.grow hg
  have hN := h.own.push ho hg hu ha
  refine ⟨?_, bx_other g0 (by omega) _ _, bx_other g1 (by omega) _ _, ?_, ?_⟩
  · exact (h.old.grown hg h.old.size (fun k e => by have := hbase k e; omega)).setCell (by show _ ≤ w.heap.size + 1 + 1; omega) _
  · exact bx_set g2 1 v'
  · have hlt := hN.lt
    refine hN.spared (S := [w.heap.size + 1 + 1]) (Spared.grown (grown_set _ _ _) (by simp)) (fun k hk hk' => ?_)
    simp at hk'
    have := (hlt k hk).1
    omega
end Go.Proofs.YtfmdejilhbankaaGreat
