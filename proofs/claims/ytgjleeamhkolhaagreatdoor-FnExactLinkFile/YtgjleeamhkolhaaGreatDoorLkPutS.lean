/- Joined texts: LkPutS. -/
import Derived.Deep.DeepCutAuto
import Derived.Test.YtgjleeamhkolhaaGreatDoorLkFileI
import Derived.Test.YtgjleeamhkolhaaGreatDoorJ13
namespace Go.Proofs.YtgjleeamhkolhaaGreatDoor
open Go.RowKit
theorem hds_cells {W:World} {a:Option Addr} {b o:Nat} {us:List Hd} (h:HdsAt W a b o us):∀ (j:Nat) (v:Value),(hdCells us)[j]? = some v→W.cell? ⟨b,o+j,none⟩=some v:=fun j v hv=>by
 have hj:j < us.length * 13:=by rw [← hdCells_length]; exact (List.getElem?_eq_some_iff.1 hv).1
 obtain ⟨t,ht⟩:∃ t,us[j / 13]? = some t:=⟨_,List.getElem?_eq_getElem (by omega)⟩
 have h1:=hdCells_at us (j / 13) t (j % 13) ht (Nat.mod_lt _ (by decide))
 rw [show j / 13 * 13+j % 13=j by omega,hv] at h1
 have:=h.cell (j / 13) t ht (j % 13) v h1.symm
 rwa [show o+j / 13 * 13+j % 13=o+j by omega] at this
theorem append13 {o:Oper} {a:Act} {w:World} {K:Act→World→Prop} {Q:Exit→Act→World→Prop} (s x:Operand) (ho:o.op=.call { callee:=.builtin .append,args:=#[s,x],argTypes:=#[32,32] })
  (base:Nat) (v:Value) (n:Nat) (xs:List Value) (hs:a.eval s=v) (hown:w.ownsRow base 63 13 v n xs) (sp:Option Addr) (m c:Nat) (news:List Value) (hx:a.eval x=.slice sp m c) (hl:news.length=m * 13)
  (hnews:0 < m→∃ ad,sp=some ad∧∀ j u,news[j]? = some u→w.cell? (ad.add j)=some u) (h1:∀ u∈news,u.oneCell' = true) (h63:n+m≤4000) (hbase:base≤w.heap.size)
  (h:∀ v' w',w'.ownsRow base 63 13 v' (n+m) (xs ++ news)→w.grownBy w' v.ownBlock→K (a.put o.dst v') w'):o.wp Tryz.prog a w K Q:=by
 obtain ⟨i0,hi0,hz0,hz1,hz2⟩:=info_parts held_info
 by_cases hm:m=0
 ·subst hm
  have hn:news=[]:=List.eq_nil_of_length_eq_zero (by simpa using hl)
  subst hn
  obtain ⟨va,vn,vc,rfl⟩:=owns_slice3 hown
  have hvn:vn=n∧vn≤vc:=by
   rcases hown.2 with ⟨e,h0⟩ | ⟨g,cap,cur,e,_,_,hc,_⟩
   ·injection e with _ e2 e3
    omega
   ·injection e with _ e2 e3
    omega
  obtain ⟨rfl,hle⟩:=hvn
  have hr:(Builtin.append_ #[32,32] o.type #[.slice va vn vc,.slice sp 0 c]).run Tryz.prog w=.ok (.slice va vn vc) w:=by
   cases va <;> cases sp <;> simp [Builtin.append_,run_underlying Tryz.underlying32,Go.sizeOf,typeInfo,hi0,Builtin.lenOf,Builtin.firstCells,hle,storeCells,loadCells,loadCellsFrom]
  have hK:=h (.slice va vn vc) w (by simpa using hown) ⟨rfl,rfl,rfl,Nat.le_refl _,fun _ _ _=>rfl⟩
  unfold Oper.wp
  simp [execOp,ho,resolve,invoke,builtin,hs,hx,hr,Result.andThen]
  exact hK
 ·obtain ⟨ad,rfl,hc⟩:=hnews (by omega)
  exact wp_append_own w s x 32 ho base 63 i0 zeroH 13 144 Tryz.underlying32 hi0 hz0 hz1 hz2 rfl (by decide) v n xs hs hown ad m c news hx hl hc h1 (by unfold maxLen; omega) (by omega) hbase (fun v' w' q1 q2 _=>h v' w' q1 q2)
structure Pa (h0:Hd) (va:Option Addr) (vc b o k K:Nat) (us:List Hd) (w0:World) (L:Nat→Prop) (y24 y25 y26 y27 y28 y29 y30 y31 y32 y33 y34 y35 y36 y37:Value) (E B:Nat) (V:World):Prop where
 m:Below w0.heap.size w0 V
 o0:L 0→¬ L 5→y24=.slice (some ⟨E,0,none⟩) 0 0∧w0.heap.size≤E∧V.heap[E]? = some (.cells #[] 63 (0,0))
 o1:L 1→y25=.pointer (some ⟨K,1,none⟩)
 o2:L 2→y26=.slice va us.length vc
 o3:L 3→y27=.int .i64 (k:Int)
 o4:L 4→y28=.slice va k vc
 o5:L 5→¬ L 8→V.ownsRow w0.heap.size 63 13 y29 k (hdCells (us.take k))
 o6:L 6→y30=h0.val
 o7:L 7→¬ L 8→y31=.slice (some ⟨B,0,none⟩) 1 1∧w0.heap.size≤B∧V.heap[B]? = some (.cells h0.cl.toArray 63 (0,0))
 o8:L 8→¬ L 13→V.ownsRow w0.heap.size 63 13 y32 (k+1) (hdCells (us.take k ++ [h0]))
 o9:L 9→y33=.pointer (some ⟨K,1,none⟩)
 o10:L 10→y34=.slice va us.length vc
 o11:L 11→y35=.int .i64 (k:Int)
 o12:L 12→∃ sp c,y36=.slice sp (us.length - k) c∧(0 < us.length - k→sp=some ⟨b,o+k * 13,none⟩)
 o13:L 13→V.ownsRow w0.heap.size 63 13 y37 (us.length+1) (hdCells (us.take k ++ h0 :: us.drop k))
 d85:L 8→L 5
 d87:L 8→L 7
 d13:L 13→L 8
 d50:L 5→L 0
section
variable {h0:Hd} {va:Option Addr} {vc b o k K:Nat} {us:List Hd} {w0:World} {L:Nat→Prop} {y24 y25 y26 y27 y28 y29 y30 y31 y32 y33 y34 y35 y36 y37:Value} {E B:Nat} {V V':World}
theorem Pa.grow (h:Pa h0 va vc b o k K us w0 L y24 y25 y26 y27 y28 y29 y30 y31 y32 y33 y34 y35 y36 y37 E B V) (hb:Below V.heap.size V V'):Pa h0 va vc b o k K us w0 L y24 y25 y26 y27 y28 y29 y30 y31 y32 y33 y34 y35 y36 y37 E B V':=
 ⟨h.m.trans (hb.mono h.m.size),
  fun a n=>by obtain ⟨e,z,q⟩:=h.o0 a n; exact ⟨e,z,(hb.block _ (lt_of_block q)).trans q⟩,
  h.o1,
  h.o2,
  h.o3,
  h.o4,
  fun a n=>owns_below (h.o5 a n) hb,
  h.o6,
  fun a n=>by obtain ⟨e,z,q⟩:=h.o7 a n; exact ⟨e,z,(hb.block _ (lt_of_block q)).trans q⟩,
  fun a n=>owns_below (h.o8 a n) hb,
  h.o9,
  h.o10,
  h.o11,
  h.o12,
  fun a=>owns_below (h.o13 a) hb,
  h.d85,
  h.d87,
  h.d13,
  h.d50⟩
theorem Pa.s0 (h:Pa h0 va vc b o k K us w0 L y24 y25 y26 y27 y28 y29 y30 y31 y32 y33 y34 y35 y36 y37 E B V)  : Pa h0 va vc b o k K us w0 (fun j=>j=0∨L j) (.slice (some ⟨V.heap.size,0,none⟩) 0 0) y25 y26 y27 y28 y29 y30 y31 y32 y33 y34 y35 y36 y37 V.heap.size B (V.alloc (.cells #[] 63)):=by
 have h2:=h.grow (bel1 (.cells #[] 63))
 exact ⟨h2.m,
  fun _ _=>⟨rfl,h.m.size,heap_alloc_new V (.cells #[] 63)⟩,
  fun h1=>h.o1 (ol h1),
  fun h2=>h.o2 (ol h2),
  fun h3=>h.o3 (ol h3),
  fun h4=>h.o4 (ol h4),
  fun z n=>h2.o5 (ol z) (fun z=>n (Or.inr z)),
  fun h6=>h.o6 (ol h6),
  fun z n=>h2.o7 (ol z) (fun z=>n (Or.inr z)),
  fun z n=>h2.o8 (ol z) (fun z=>n (Or.inr z)),
  fun h9=>h.o9 (ol h9),
  fun h10=>h.o10 (ol h10),
  fun h11=>h.o11 (ol h11),
  fun h12=>h.o12 (ol h12),
  fun z=>h2.o13 (ol z),
  fun h8=>Or.inr (h.d85 (ol h8)),
  fun h8=>Or.inr (h.d87 (ol h8)),
  fun h13=>Or.inr (h.d13 (ol h13)),
  fun _=>Or.inl rfl⟩
theorem Pa.s1 (h:Pa h0 va vc b o k K us w0 L y24 y25 y26 y27 y28 y29 y30 y31 y32 y33 y34 y35 y36 y37 E B V)  : Pa h0 va vc b o k K us w0 (fun j=>j=1∨L j) y24 (.pointer (some ⟨K,1,none⟩)) y26 y27 y28 y29 y30 y31 y32 y33 y34 y35 y36 y37 E B V:=by
 exact ⟨h.m,
  fun h0 n5=>h.o0 (ol h0) (fun z=>n5 (Or.inr z)),
  fun _=>rfl,
  fun h2=>h.o2 (ol h2),
  fun h3=>h.o3 (ol h3),
  fun h4=>h.o4 (ol h4),
  fun h5 n8=>h.o5 (ol h5) (fun z=>n8 (Or.inr z)),
  fun h6=>h.o6 (ol h6),
  fun h7 n8=>h.o7 (ol h7) (fun z=>n8 (Or.inr z)),
  fun h8 n13=>h.o8 (ol h8) (fun z=>n13 (Or.inr z)),
  fun h9=>h.o9 (ol h9),
  fun h10=>h.o10 (ol h10),
  fun h11=>h.o11 (ol h11),
  fun h12=>h.o12 (ol h12),
  fun h13=>h.o13 (ol h13),
  fun h8=>Or.inr (h.d85 (ol h8)),
  fun h8=>Or.inr (h.d87 (ol h8)),
  fun h13=>Or.inr (h.d13 (ol h13)),
  fun h5=>Or.inr (h.d50 (ol h5))⟩
theorem Pa.s2 (h:Pa h0 va vc b o k K us w0 L y24 y25 y26 y27 y28 y29 y30 y31 y32 y33 y34 y35 y36 y37 E B V)  : Pa h0 va vc b o k K us w0 (fun j=>j=2∨L j) y24 y25 (.slice va us.length vc) y27 y28 y29 y30 y31 y32 y33 y34 y35 y36 y37 E B V:=by
 exact ⟨h.m,
  fun h0 n5=>h.o0 (ol h0) (fun z=>n5 (Or.inr z)),
  fun h1=>h.o1 (ol h1),
  fun _=>rfl,
  fun h3=>h.o3 (ol h3),
  fun h4=>h.o4 (ol h4),
  fun h5 n8=>h.o5 (ol h5) (fun z=>n8 (Or.inr z)),
  fun h6=>h.o6 (ol h6),
  fun h7 n8=>h.o7 (ol h7) (fun z=>n8 (Or.inr z)),
  fun h8 n13=>h.o8 (ol h8) (fun z=>n13 (Or.inr z)),
  fun h9=>h.o9 (ol h9),
  fun h10=>h.o10 (ol h10),
  fun h11=>h.o11 (ol h11),
  fun h12=>h.o12 (ol h12),
  fun h13=>h.o13 (ol h13),
  fun h8=>Or.inr (h.d85 (ol h8)),
  fun h8=>Or.inr (h.d87 (ol h8)),
  fun h13=>Or.inr (h.d13 (ol h13)),
  fun h5=>Or.inr (h.d50 (ol h5))⟩
theorem Pa.s3 (h:Pa h0 va vc b o k K us w0 L y24 y25 y26 y27 y28 y29 y30 y31 y32 y33 y34 y35 y36 y37 E B V)  : Pa h0 va vc b o k K us w0 (fun j=>j=3∨L j) y24 y25 y26 (.int .i64 (k:Int)) y28 y29 y30 y31 y32 y33 y34 y35 y36 y37 E B V:=by
 exact ⟨h.m,
  fun h0 n5=>h.o0 (ol h0) (fun z=>n5 (Or.inr z)),
  fun h1=>h.o1 (ol h1),
  fun h2=>h.o2 (ol h2),
  fun _=>rfl,
  fun h4=>h.o4 (ol h4),
  fun h5 n8=>h.o5 (ol h5) (fun z=>n8 (Or.inr z)),
  fun h6=>h.o6 (ol h6),
  fun h7 n8=>h.o7 (ol h7) (fun z=>n8 (Or.inr z)),
  fun h8 n13=>h.o8 (ol h8) (fun z=>n13 (Or.inr z)),
  fun h9=>h.o9 (ol h9),
  fun h10=>h.o10 (ol h10),
  fun h11=>h.o11 (ol h11),
  fun h12=>h.o12 (ol h12),
  fun h13=>h.o13 (ol h13),
  fun h8=>Or.inr (h.d85 (ol h8)),
  fun h8=>Or.inr (h.d87 (ol h8)),
  fun h13=>Or.inr (h.d13 (ol h13)),
  fun h5=>Or.inr (h.d50 (ol h5))⟩
theorem Pa.s4 (h:Pa h0 va vc b o k K us w0 L y24 y25 y26 y27 y28 y29 y30 y31 y32 y33 y34 y35 y36 y37 E B V)  : Pa h0 va vc b o k K us w0 (fun j=>j=4∨L j) y24 y25 y26 y27 (.slice va k vc) y29 y30 y31 y32 y33 y34 y35 y36 y37 E B V:=by
 exact ⟨h.m,
  fun h0 n5=>h.o0 (ol h0) (fun z=>n5 (Or.inr z)),
  fun h1=>h.o1 (ol h1),
  fun h2=>h.o2 (ol h2),
  fun h3=>h.o3 (ol h3),
  fun _=>rfl,
  fun h5 n8=>h.o5 (ol h5) (fun z=>n8 (Or.inr z)),
  fun h6=>h.o6 (ol h6),
  fun h7 n8=>h.o7 (ol h7) (fun z=>n8 (Or.inr z)),
  fun h8 n13=>h.o8 (ol h8) (fun z=>n13 (Or.inr z)),
  fun h9=>h.o9 (ol h9),
  fun h10=>h.o10 (ol h10),
  fun h11=>h.o11 (ol h11),
  fun h12=>h.o12 (ol h12),
  fun h13=>h.o13 (ol h13),
  fun h8=>Or.inr (h.d85 (ol h8)),
  fun h8=>Or.inr (h.d87 (ol h8)),
  fun h13=>Or.inr (h.d13 (ol h13)),
  fun h5=>Or.inr (h.d50 (ol h5))⟩
theorem Pa.s5 (h:Pa h0 va vc b o k K us w0 L y24 y25 y26 y27 y28 y29 y30 y31 y32 y33 y34 y35 y36 y37 E B V) (n5:¬ L 5) (g0:L 0) {v':Value} {V':World} (hg:V.grownBy V' (some E)) (q:V'.ownsRow w0.heap.size 63 13 v' k (hdCells (us.take k))):Pa h0 va vc b o k K us w0 (fun j=>j=5∨L j) y24 y25 y26 y27 y28 v' y30 y31 y32 y33 y34 y35 y36 y37 E B V':=by
 exact ⟨h.m.grown hg h.m.size (fun k e=>by cases e; exact (h.o0 g0 n5).2.1),
  fun _ n=>absurd (Or.inl rfl) n,
  fun h1=>h.o1 (ol h1),
  fun h2=>h.o2 (ol h2),
  fun h3=>h.o3 (ol h3),
  fun h4=>h.o4 (ol h4),
  fun _ _=>q,
  fun h6=>h.o6 (ol h6),
  fun z n=>by
   obtain ⟨e,zz,q7⟩:=h.o7 (ol z) (fun z=>n (Or.inr z))
   have qE:=(h.o0 g0 n5).2.2
   refine ⟨e,zz,(hg.block _ (lt_of_block q7) (fun e=>?_)).trans q7⟩
   cases e
   rw [q7] at qE
   have:=congrArg (fun o=>match o with | some (Obj.cells c _ _)=>c.size | _=>0) qE
   simp at this,
  fun z _=>absurd (ol z) (fun z=>n5 (h.d85 z)),
  fun h9=>h.o9 (ol h9),
  fun h10=>h.o10 (ol h10),
  fun h11=>h.o11 (ol h11),
  fun h12=>h.o12 (ol h12),
  fun z=>absurd (ol z) (fun z=>n5 (h.d85 (h.d13 z))),
  fun _=>Or.inl rfl,
  fun h8=>Or.inr (h.d87 (ol h8)),
  fun h13=>Or.inr (h.d13 (ol h13)),
  fun _=>Or.inr g0⟩
theorem Pa.s6 (h:Pa h0 va vc b o k K us w0 L y24 y25 y26 y27 y28 y29 y30 y31 y32 y33 y34 y35 y36 y37 E B V)  : Pa h0 va vc b o k K us w0 (fun j=>j=6∨L j) y24 y25 y26 y27 y28 y29 h0.val y31 y32 y33 y34 y35 y36 y37 E B V:=by
 exact ⟨h.m,
  fun h0 n5=>h.o0 (ol h0) (fun z=>n5 (Or.inr z)),
  fun h1=>h.o1 (ol h1),
  fun h2=>h.o2 (ol h2),
  fun h3=>h.o3 (ol h3),
  fun h4=>h.o4 (ol h4),
  fun h5 n8=>h.o5 (ol h5) (fun z=>n8 (Or.inr z)),
  fun _=>rfl,
  fun h7 n8=>h.o7 (ol h7) (fun z=>n8 (Or.inr z)),
  fun h8 n13=>h.o8 (ol h8) (fun z=>n13 (Or.inr z)),
  fun h9=>h.o9 (ol h9),
  fun h10=>h.o10 (ol h10),
  fun h11=>h.o11 (ol h11),
  fun h12=>h.o12 (ol h12),
  fun h13=>h.o13 (ol h13),
  fun h8=>Or.inr (h.d85 (ol h8)),
  fun h8=>Or.inr (h.d87 (ol h8)),
  fun h13=>Or.inr (h.d13 (ol h13)),
  fun h5=>Or.inr (h.d50 (ol h5))⟩
theorem Pa.s7 (h:Pa h0 va vc b o k K us w0 L y24 y25 y26 y27 y28 y29 y30 y31 y32 y33 y34 y35 y36 y37 E B V)  : Pa h0 va vc b o k K us w0 (fun j=>j=7∨L j) y24 y25 y26 y27 y28 y29 y30 (.slice (some ⟨V.heap.size,0,none⟩) 1 1) y32 y33 y34 y35 y36 y37 E V.heap.size (V.alloc (.cells h0.cl.toArray 63)):=by
 have h2:=h.grow (bel1 (.cells h0.cl.toArray 63))
 exact ⟨h2.m,
  fun z n=>h2.o0 (ol z) (fun z=>n (Or.inr z)),
  fun h1=>h.o1 (ol h1),
  fun h2=>h.o2 (ol h2),
  fun h3=>h.o3 (ol h3),
  fun h4=>h.o4 (ol h4),
  fun z n=>h2.o5 (ol z) (fun z=>n (Or.inr z)),
  fun h6=>h.o6 (ol h6),
  fun _ _=>⟨rfl,h.m.size,heap_alloc_new V (.cells h0.cl.toArray 63)⟩,
  fun z n=>h2.o8 (ol z) (fun z=>n (Or.inr z)),
  fun h9=>h.o9 (ol h9),
  fun h10=>h.o10 (ol h10),
  fun h11=>h.o11 (ol h11),
  fun h12=>h.o12 (ol h12),
  fun z=>h2.o13 (ol z),
  fun h8=>Or.inr (h.d85 (ol h8)),
  fun _=>Or.inl rfl,
  fun h13=>Or.inr (h.d13 (ol h13)),
  fun h5=>Or.inr (h.d50 (ol h5))⟩
theorem Pa.s8 (h:Pa h0 va vc b o k K us w0 L y24 y25 y26 y27 y28 y29 y30 y31 y32 y33 y34 y35 y36 y37 E B V) (n8:¬ L 8) (g5:L 5) (g7:L 7) {v':Value} {V':World} {row:Option Nat} (hr:∀ k,row=some k→w0.heap.size≤k) (hg:V.grownBy V' row) (q:V'.ownsRow w0.heap.size 63 13 v' (k+1) (hdCells (us.take k ++ [h0]))):Pa h0 va vc b o k K us w0 (fun j=>j=8∨L j) y24 y25 y26 y27 y28 y29 y30 y31 v' y33 y34 y35 y36 y37 E B V':=by
 exact ⟨h.m.grown hg h.m.size hr,
  fun _ n=>absurd (Or.inr g5) n,
  fun h1=>h.o1 (ol h1),
  fun h2=>h.o2 (ol h2),
  fun h3=>h.o3 (ol h3),
  fun h4=>h.o4 (ol h4),
  fun _ n=>absurd (Or.inl rfl) n,
  fun h6=>h.o6 (ol h6),
  fun _ n=>absurd (Or.inl rfl) n,
  fun _ _=>q,
  fun h9=>h.o9 (ol h9),
  fun h10=>h.o10 (ol h10),
  fun h11=>h.o11 (ol h11),
  fun h12=>h.o12 (ol h12),
  fun z=>absurd (ol z) (fun z=>n8 (h.d13 z)),
  fun _=>Or.inr g5,
  fun _=>Or.inr g7,
  fun _=>Or.inl rfl,
  fun h5=>Or.inr (h.d50 (ol h5))⟩
theorem Pa.s9 (h:Pa h0 va vc b o k K us w0 L y24 y25 y26 y27 y28 y29 y30 y31 y32 y33 y34 y35 y36 y37 E B V)  : Pa h0 va vc b o k K us w0 (fun j=>j=9∨L j) y24 y25 y26 y27 y28 y29 y30 y31 y32 (.pointer (some ⟨K,1,none⟩)) y34 y35 y36 y37 E B V:=by
 exact ⟨h.m,
  fun h0 n5=>h.o0 (ol h0) (fun z=>n5 (Or.inr z)),
  fun h1=>h.o1 (ol h1),
  fun h2=>h.o2 (ol h2),
  fun h3=>h.o3 (ol h3),
  fun h4=>h.o4 (ol h4),
  fun h5 n8=>h.o5 (ol h5) (fun z=>n8 (Or.inr z)),
  fun h6=>h.o6 (ol h6),
  fun h7 n8=>h.o7 (ol h7) (fun z=>n8 (Or.inr z)),
  fun h8 n13=>h.o8 (ol h8) (fun z=>n13 (Or.inr z)),
  fun _=>rfl,
  fun h10=>h.o10 (ol h10),
  fun h11=>h.o11 (ol h11),
  fun h12=>h.o12 (ol h12),
  fun h13=>h.o13 (ol h13),
  fun h8=>Or.inr (h.d85 (ol h8)),
  fun h8=>Or.inr (h.d87 (ol h8)),
  fun h13=>Or.inr (h.d13 (ol h13)),
  fun h5=>Or.inr (h.d50 (ol h5))⟩
theorem Pa.s10 (h:Pa h0 va vc b o k K us w0 L y24 y25 y26 y27 y28 y29 y30 y31 y32 y33 y34 y35 y36 y37 E B V)  : Pa h0 va vc b o k K us w0 (fun j=>j=10∨L j) y24 y25 y26 y27 y28 y29 y30 y31 y32 y33 (.slice va us.length vc) y35 y36 y37 E B V:=by
 exact ⟨h.m,
  fun h0 n5=>h.o0 (ol h0) (fun z=>n5 (Or.inr z)),
  fun h1=>h.o1 (ol h1),
  fun h2=>h.o2 (ol h2),
  fun h3=>h.o3 (ol h3),
  fun h4=>h.o4 (ol h4),
  fun h5 n8=>h.o5 (ol h5) (fun z=>n8 (Or.inr z)),
  fun h6=>h.o6 (ol h6),
  fun h7 n8=>h.o7 (ol h7) (fun z=>n8 (Or.inr z)),
  fun h8 n13=>h.o8 (ol h8) (fun z=>n13 (Or.inr z)),
  fun h9=>h.o9 (ol h9),
  fun _=>rfl,
  fun h11=>h.o11 (ol h11),
  fun h12=>h.o12 (ol h12),
  fun h13=>h.o13 (ol h13),
  fun h8=>Or.inr (h.d85 (ol h8)),
  fun h8=>Or.inr (h.d87 (ol h8)),
  fun h13=>Or.inr (h.d13 (ol h13)),
  fun h5=>Or.inr (h.d50 (ol h5))⟩
theorem Pa.s11 (h:Pa h0 va vc b o k K us w0 L y24 y25 y26 y27 y28 y29 y30 y31 y32 y33 y34 y35 y36 y37 E B V)  : Pa h0 va vc b o k K us w0 (fun j=>j=11∨L j) y24 y25 y26 y27 y28 y29 y30 y31 y32 y33 y34 (.int .i64 (k:Int)) y36 y37 E B V:=by
 exact ⟨h.m,
  fun h0 n5=>h.o0 (ol h0) (fun z=>n5 (Or.inr z)),
  fun h1=>h.o1 (ol h1),
  fun h2=>h.o2 (ol h2),
  fun h3=>h.o3 (ol h3),
  fun h4=>h.o4 (ol h4),
  fun h5 n8=>h.o5 (ol h5) (fun z=>n8 (Or.inr z)),
  fun h6=>h.o6 (ol h6),
  fun h7 n8=>h.o7 (ol h7) (fun z=>n8 (Or.inr z)),
  fun h8 n13=>h.o8 (ol h8) (fun z=>n13 (Or.inr z)),
  fun h9=>h.o9 (ol h9),
  fun h10=>h.o10 (ol h10),
  fun _=>rfl,
  fun h12=>h.o12 (ol h12),
  fun h13=>h.o13 (ol h13),
  fun h8=>Or.inr (h.d85 (ol h8)),
  fun h8=>Or.inr (h.d87 (ol h8)),
  fun h13=>Or.inr (h.d13 (ol h13)),
  fun h5=>Or.inr (h.d50 (ol h5))⟩
theorem Pa.s12 (h:Pa h0 va vc b o k K us w0 L y24 y25 y26 y27 y28 y29 y30 y31 y32 y33 y34 y35 y36 y37 E B V) {sp:Option Addr} {c:Nat} (q:0 < us.length - k→sp=some ⟨b,o+k * 13,none⟩):Pa h0 va vc b o k K us w0 (fun j=>j=12∨L j) y24 y25 y26 y27 y28 y29 y30 y31 y32 y33 y34 y35 (.slice sp (us.length - k) c) y37 E B V:=by
 exact ⟨h.m,
  fun h0 n5=>h.o0 (ol h0) (fun z=>n5 (Or.inr z)),
  fun h1=>h.o1 (ol h1),
  fun h2=>h.o2 (ol h2),
  fun h3=>h.o3 (ol h3),
  fun h4=>h.o4 (ol h4),
  fun h5 n8=>h.o5 (ol h5) (fun z=>n8 (Or.inr z)),
  fun h6=>h.o6 (ol h6),
  fun h7 n8=>h.o7 (ol h7) (fun z=>n8 (Or.inr z)),
  fun h8 n13=>h.o8 (ol h8) (fun z=>n13 (Or.inr z)),
  fun h9=>h.o9 (ol h9),
  fun h10=>h.o10 (ol h10),
  fun h11=>h.o11 (ol h11),
  fun _=>⟨sp,c,rfl,q⟩,
  fun h13=>h.o13 (ol h13),
  fun h8=>Or.inr (h.d85 (ol h8)),
  fun h8=>Or.inr (h.d87 (ol h8)),
  fun h13=>Or.inr (h.d13 (ol h13)),
  fun h5=>Or.inr (h.d50 (ol h5))⟩
theorem Pa.s13 (h:Pa h0 va vc b o k K us w0 L y24 y25 y26 y27 y28 y29 y30 y31 y32 y33 y34 y35 y36 y37 E B V) (g8:L 8) {v':Value} {V':World} {row:Option Nat} (hr:∀ k,row=some k→w0.heap.size≤k) (hg:V.grownBy V' row) (q:V'.ownsRow w0.heap.size 63 13 v' (us.length+1) (hdCells (us.take k ++ h0 :: us.drop k))):Pa h0 va vc b o k K us w0 (fun j=>j=13∨L j) y24 y25 y26 y27 y28 y29 y30 y31 y32 y33 y34 y35 y36 v' E B V':=by
 exact ⟨h.m.grown hg h.m.size hr,
  fun _ n=>absurd (Or.inr (h.d85 g8)) n,
  fun h1=>h.o1 (ol h1),
  fun h2=>h.o2 (ol h2),
  fun h3=>h.o3 (ol h3),
  fun h4=>h.o4 (ol h4),
  fun _ n=>absurd (Or.inr g8) n,
  fun h6=>h.o6 (ol h6),
  fun _ n=>absurd (Or.inr g8) n,
  fun _ n=>absurd (Or.inl rfl) n,
  fun h9=>h.o9 (ol h9),
  fun h10=>h.o10 (ol h10),
  fun h11=>h.o11 (ol h11),
  fun h12=>h.o12 (ol h12),
  fun _=>q,
  fun h8=>Or.inr (h.d85 (ol h8)),
  fun h8=>Or.inr (h.d87 (ol h8)),
  fun _=>Or.inr g8,
  fun h5=>Or.inr (h.d50 (ol h5))⟩
theorem Pa.zero (m:Below w0.heap.size w0 V):Pa h0 va vc b o k K us w0 (fun _=>False) y24 y25 y26 y27 y28 y29 y30 y31 y32 y33 y34 y35 y36 y37 0 0 V:=⟨m,fun h _=>h.elim,fun h=>h.elim,fun h=>h.elim,fun h=>h.elim,fun h=>h.elim,fun h _=>h.elim,fun h=>h.elim,fun h _=>h.elim,fun h _=>h.elim,fun h=>h.elim,fun h=>h.elim,fun h=>h.elim,fun h=>h.elim,fun h=>h.elim,fun h=>h.elim,fun h=>h.elim,fun h=>h.elim,fun h=>h.elim⟩
end
inductive PaI (h0:Hd) (va:Option Addr) (vc b o k K:Nat) (us:List Hd) (w0:World) (la:Int):(Nat→Prop)→Act→World→Prop
 | mk {L:Nat→Prop} {x6 x7 x8 x9 x10 x11 x12 x13 x14 x15 x16 x17 x18 x19 x20 x21 x22 x23 x38 x39 y24 y25 y26 y27 y28 y29 y30 y31 y32 y33 y34 y35 y36 y37:Value} {E B:Nat} {V:World} (h:Pa h0 va vc b o k K us w0 L y24 y25 y26 y27 y28 y29 y30 y31 y32 y33 y34 y35 y36 y37 E B V):PaI h0 va vc b o k K us w0 la L ⟨#[.agg #[.int .i64 la,.slice va us.length vc],h0.val,.pointer (some ⟨K,0,none⟩),.pointer (some ⟨K+1,0,none⟩),.pointer (some ⟨K+1+1,0,none⟩),.int .i64 (k:Int),x6,x7,x8,x9,x10,x11,x12,x13,x14,x15,x16,x17,x18,x19,x20,x21,x22,x23,y24,y25,y26,y27,y28,y29,y30,y31,y32,y33,y34,y35,y36,y37,x38,x39],[]⟩ V
set_option maxRecDepth 20000 in
set_option maxHeartbeats 8000000 in
theorem putS_any (la:Int) (va:Option Addr) (b o vc:Nat) (us:List Hd) (h0:Hd) (w:World) (hul:us.length≤900) (hs:HdsAt w va b o us) (hvc:us.length≤vc) :
  Calls Tryz.prog 29 #[.agg #[.int .i64 la,.slice va us.length vc],h0.val] w fun e w'=>∃ (v':Value) (i:Nat),e=.returned (.agg #[.int .i64 la,v'])∧i≤us.length∧(∀ j t,j < i→us[j]? = some t→ltN t.nm h0.nm=true)∧(∀ t,us[i]? = some t→ltN t.nm h0.nm=false)∧w'.ownsRow w.heap.size 63 13 v' (us.length+1) (hdCells (us.take i ++ h0 :: us.drop i))∧Below w.heap.size w w':=by
 obtain ⟨W0,hW0⟩:∃ W0,(((w.alloc (.cells #[.int .i64 la,.slice va us.length vc] 34)).alloc (.cells h0.cl.toArray 63)).alloc (.cells #[.int .i64 0,.slice none 0 0] 34))=W0:=⟨_,rfl⟩
 have B0:Below w.heap.size w W0:=by rw [← hW0]; exact bel3 _ _ _
 have z0:W0.heap.size=w.heap.size+1+1+1:=by rw [← hW0]; simp
 have XK0:Cbx W0 w.heap.size #[.int .i64 la,.slice va us.length vc]:=by rw [← hW0]; exact (Cbx.new w #[.int .i64 la,.slice va us.length vc] 34).keep (bel2 _ _)
 have hH0:W0.heap[w.heap.size+1]? = some (.cells h0.cl.toArray 63 (0,0)):=by
  rw [← hW0]
  have h:=heap_alloc_new (w.alloc (.cells #[.int .i64 la,.slice va us.length vc] 34)) (.cells h0.cl.toArray 63)
  rw [World.size_alloc] at h
  exact ((bel1 _).block _ (lt_of_block h)).trans h
 have XZ0:Cbx W0 (w.heap.size+1+1) #[.int .i64 0,.slice none 0 0]:=by
  rw [← hW0]
  have h:=Cbx.new ((w.alloc (.cells #[.int .i64 la,.slice va us.length vc] 34)).alloc (.cells h0.cl.toArray 63)) #[.int .i64 0,.slice none 0 0] 34
  rw [World.size_alloc,World.size_alloc] at h
  exact h
 have zK:w.heap.size < W0.heap.size:=by omega
 go_enter Tryz.func29,Tryz.ntmps29
 go_wp2
 clear hW0
 go_loopw [5] (fun s5 wr=>∃ k:Nat,s5=.int .i64 (k:Int)∧k≤us.length∧Below W0.heap.size W0 wr∧∀ j t,j < k→us[j]? = some t→ltN t.nm h0.nm=true) (fun s5 _=>us.length - (intOf s5).toNat)
 case atStart=>exact ⟨0,rfl,Nat.zero_le _,Below.refl _ _,fun j t hj=>by omega⟩
 case round =>
  obtain ⟨k,rfl,hk,hb,hlo⟩:=hrel
  have HLO:Hid (∀ j t,j < k→us[j]? = some t→ltN t.nm h0.nm=true):=hlo
  clear hlo
  have XK:=XK0.keep hb
  have XZ:=XZ0.keep hb
  have hHb:=(hb.block _ (lt_of_block hH0)).trans hH0
  have hsw:=hs.below (B0.trans (hb.mono B0.size))
  have zr:=hb.size
  obtain ⟨k0,k1⟩:wr.cell? ⟨w.heap.size,0,none⟩=some (.int .i64 la)∧wr.cell? ⟨w.heap.size,1,none⟩=some (.slice va us.length vc):=⟨XK.c 0,XK.c 1⟩
  have n0:wr.cell? ⟨w.heap.size+1,0,none⟩=some (.string h0.nm):=(blk13 hHb).1
  have qn:=Cls.any wr
  have c1:∀ u:Cls wr,u.it.cell? ⟨w.heap.size,1,none⟩=some (.slice va us.length vc):=fun u=>(u.cell XK.lt 1).trans k1
  have c2:∀ u:Cls wr,u.it.cell? ⟨w.heap.size+1,0,none⟩=some (.string h0.nm):=fun u=>(u.cell (lt_of_block hHb) 0).trans n0
  by_cases hlt:k < us.length
  ·obtain ⟨t,htk⟩:∃ t,us[k]? = some t:=⟨us[k],List.getElem?_eq_getElem hlt⟩
   have hne:us≠[]:=by intro e; subst e; simp at hlt
   obtain rfl:=hsw.here hne
   have hbl:=hsw.lt hne
   have t0:=(cl_cells (hsw.cell k t htk)).1
   have c3:∀ u:Cls wr,u.it.cell? ⟨b,o+k * 13,none⟩=some (.string t.nm):=fun u=>(u.cell hbl _).trans t0
   have m0:(0:Int)≤(k:Int):=by omega
   have m1:(k:Int) < (us.length:Int):=by omega
   have HT:Hid (us[k]? = some t):=htk
   clear htk
   cases hn:ltN t.nm h0.nm with
   | true =>
    have hn2:Op.bytesLess t.nm.toList h0.nm.toList=true:=hn
    have HN:Hid (ltN t.nm h0.nm=true):=hn
    clear hn
    go_wp2
    refine wp_region_cls (by kernel_rfl) (by kernel_rfl) ?_
    repeat (go_big_quiet_step (fail))
    refine wpQuiet_nil ?_
    rintro w3 ⟨u,rfl⟩
    have hb3:=u.same
    generalize u.it=w3 at *
    clear c1 c2 c3 qn
    go_wp2
    go_roundw
    case rel =>
     refine ⟨k+1,by go_num,by omega,hb.trans (hb3.mono hb.size),fun j x hj hx=>?_⟩
     by_cases e:j=k
     ·subst e
      rw [HT.out] at hx
      cases hx
      exact HN.out
     ·exact HLO.out j x (by omega) hx
    case measure=>simp [intOf]; omega
   | false =>
    have hn2:Op.bytesLess t.nm.toList h0.nm.toList=false:=hn
    have HHI:Hid (∀ x,us[k]? = some x→ltN x.nm h0.nm=false):=fun x hx=>by rw [HT.out] at hx; cases hx; exact hn
    clear hn
    go_wp2
    refine wp_region_cls (by kernel_rfl) (by kernel_rfl) ?_
    repeat (go_big_quiet_step (fail))
    refine wpQuiet_nil ?_
    rintro w3 ⟨u,rfl⟩
    have hb3:=u.same
    generalize u.it=w3 at *
    clear c1 c2 c3 qn k0 k1 n0 t0
    have B3:Below W0.heap.size W0 w3:=hb.trans (hb3.mono hb.size)
    clear XK XZ hHb hsw
    have XK:=XK0.keep B3
    have XZ:=XZ0.keep B3
    have hHb:=(B3.block _ (lt_of_block hH0)).trans hH0
    have B0':=B0.trans (B3.mono B0.size)
    have hsw:=hs.below B0'
    have zr3:=B3.size
    have k1:w3.cell? ⟨w.heap.size,1,none⟩=some (.slice (some ⟨b,o,none⟩) us.length vc):=XK.c 1
    have mk0:(0:Int)≤(k:Int):=by omega
    have mk1:(k:Int)≤(vc:Int):=by omega
    have mk2:(k:Int)≤(us.length:Int):=by omega
    clear B0
    have B0:=B0'
    have zK3:w.heap.size < w3.heap.size:=XK.lt
    have zH3:w.heap.size+1 < w3.heap.size:=lt_of_block hHb
    go_wp2
    refine region_invK 14 2 (by kernel_rfl) (by kernel_rfl) (by kernel_rfl) (by kernel_rfl) (PaI h0 (some ⟨b,o,none⟩) vc b o k w.heap.size us w3 la) (.mk (Pa.zero ((Below.refl _ _).drew))) ?_ ?_
    ·change StepsOk _ _ _ _ _ [0,1,2,3,4,5,6,7,8,9,10,11,12,13]
     refine StepsOk.cons rfl (fun L a V hL hd hI Kq hK=>?_) ?_
     ·cases hI with
      | mk h =>
       go_simp
       exact hK _ _ (.mk (h.s0))
     refine StepsOk.cons rfl (fun L a V hL hd hI Kq hK=>?_) ?_
     ·cases hI with
      | mk h =>
       go_simp
       exact hK _ _ (.mk (h.s1))
     refine StepsOk.cons rfl (fun L a V hL hd hI Kq hK=>?_) ?_
     ·cases hI with
      | mk h =>
       obtain rfl:=h.o1 (hd 1 (by kernel_rfl))
       have l1:V.cell? ⟨w.heap.size,1,none⟩=some (.slice (some ⟨b,o,none⟩) us.length vc):=(h.m.cell (p:=⟨w.heap.size,1,none⟩) zK3).trans k1
       go_simp
       exact hK _ _ (.mk (h.s2))
     refine StepsOk.cons rfl (fun L a V hL hd hI Kq hK=>?_) ?_
     ·cases hI with
      | mk h =>
       go_simp
       exact hK _ _ (.mk (h.s3))
     refine StepsOk.cons rfl (fun L a V hL hd hI Kq hK=>?_) ?_
     ·cases hI with
      | mk h =>
       obtain rfl:=h.o2 (hd 2 (by kernel_rfl))
       obtain rfl:=h.o3 (hd 3 (by kernel_rfl))
       go_simp
       exact hK _ _ (.mk (h.s4))
     refine StepsOk.cons rfl (fun L a V hL hd hI Kq hK=>?_) ?_
     ·cases hI with
      | mk h =>
       have g0:L 0:=(hd 0 (by kernel_rfl))
       obtain ⟨e,hE,qE⟩:=h.o0 g0 hL
       subst e
       obtain rfl:=h.o4 (hd 4 (by kernel_rfl))
       rw [if_pos (by rfl)]
       refine append13 _ _ rfl w3.heap.size (.slice (some ⟨_,0,none⟩) 0 0) 0 [] rfl ⟨rfl,Or.inr ⟨_,0,#[],rfl,hE,qE,Nat.le_refl _,by unfold maxLen; omega,rfl,rfl⟩⟩ (some ⟨b,o,none⟩) k vc (hdCells (us.take k)) rfl (by rw [hdCells_length,List.length_take]; omega) (fun hk0=>⟨⟨b,o,none⟩,rfl,fun j u hu=>?_⟩) (hdCells_one _) (by omega) h.m.size ?_
       ·rw [Addr.add_mid]
        have hj:j < k * 13:=by have:=(List.getElem?_eq_some_iff.1 hu).1; rwa [hdCells_length,List.length_take,Nat.min_eq_left hk] at this
        refine hds_cells (hsw.below h.m) j u ?_
        rw [← hdCells_take,List.getElem?_take,if_pos hj] at hu
        exact hu
       ·intro v1 V1 q1 g1
        rw [Nat.zero_add,List.nil_append] at q1
        exact hK _ _ (.mk (h.s5 hL g0 g1 q1))
     refine StepsOk.cons rfl (fun L a V hL hd hI Kq hK=>?_) ?_
     ·cases hI with
      | mk h =>
       have hHV:=(h.m.block _ zH3).trans hHb
       obtain ⟨f0,f1,f2,f3,f4,f5,f6,f7,f8,f9,f10,f11,f12⟩:=blk13 hHV
       go_simp
       exact hK _ _ (.mk (h.s6))
     refine StepsOk.cons rfl (fun L a V hL hd hI Kq hK=>?_) ?_
     ·cases hI with
      | mk h =>
       obtain rfl:=h.o6 (hd 6 (by kernel_rfl))
       go_simp
       exact hK _ _ (.mk (h.s7))
     refine StepsOk.cons rfl (fun L a V hL hd hI Kq hK=>?_) ?_
     ·cases hI with
      | mk h =>
       have g5:L 5:=(hd 5 (by kernel_rfl))
       have g7:L 7:=(hd 7 (by kernel_rfl))
       have q5:=h.o5 g5 hL
       obtain ⟨e,hB,qB⟩:=h.o7 g7 hL
       subst e
       rw [if_pos (by rfl)]
       refine append13 _ _ rfl w3.heap.size _ k (hdCells (us.take k)) rfl q5 (some ⟨_,0,none⟩) 1 1 h0.cl rfl (by rw [cl_length]) (fun _=>⟨_,rfl,cl_blockI qB⟩) (by rw [cl_hd]; exact hdCells_one _) (by omega) h.m.size ?_
       intro v1 V1 q1 g1
       rw [cl_hd,← hdCells_append] at q1
       exact hK _ _ (.mk (h.s8 hL g5 g7 (fun k e=>(q5.lt k e).1) g1 q1))
     refine StepsOk.cons rfl (fun L a V hL hd hI Kq hK=>?_) ?_
     ·cases hI with
      | mk h =>
       go_simp
       exact hK _ _ (.mk (h.s9))
     refine StepsOk.cons rfl (fun L a V hL hd hI Kq hK=>?_) ?_
     ·cases hI with
      | mk h =>
       obtain rfl:=h.o9 (hd 9 (by kernel_rfl))
       have l1:V.cell? ⟨w.heap.size,1,none⟩=some (.slice (some ⟨b,o,none⟩) us.length vc):=(h.m.cell (p:=⟨w.heap.size,1,none⟩) zK3).trans k1
       go_simp
       exact hK _ _ (.mk (h.s10))
     refine StepsOk.cons rfl (fun L a V hL hd hI Kq hK=>?_) ?_
     ·cases hI with
      | mk h =>
       go_simp
       exact hK _ _ (.mk (h.s11))
     refine StepsOk.cons rfl (fun L a V hL hd hI Kq hK=>?_) ?_
     ·cases hI with
      | mk h =>
       obtain rfl:=h.o10 (hd 10 (by kernel_rfl))
       obtain rfl:=h.o11 (hd 11 (by kernel_rfl))
       have hck:¬ vc=k:=by omega
       go_simp
       exact hK _ _ (.mk (h.s12 (fun _=>rfl)))
     refine StepsOk.cons rfl (fun L a V hL hd hI Kq hK=>?_) ?_
     ·cases hI with
      | mk h =>
       have g8:L 8:=(hd 8 (by kernel_rfl))
       have q8:=h.o8 g8 hL
       obtain ⟨sp,c,e,hsp⟩:=h.o12 (hd 12 (by kernel_rfl))
       subst e
       rw [if_pos (by rfl)]
       refine append13 _ _ rfl w3.heap.size _ (k+1) (hdCells (us.take k ++ [h0])) rfl q8 sp (us.length - k) c (hdCells (us.drop k)) rfl (by rw [hdCells_length,List.length_drop]) (fun hk0=>⟨_,hsp hk0,fun j u hu=>?_⟩) (hdCells_one _) (by omega) h.m.size ?_
       ·rw [Addr.add_mid]
        have:=hds_cells (hsw.below h.m) (k * 13+j) u (by rw [← hdCells_drop,List.getElem?_drop] at hu; exact hu)
        rwa [← Nat.add_assoc] at this
       ·intro v1 V1 q1 g1
        rw [← hdCells_append,List.append_assoc,show k+1+(us.length - k)=us.length+1 by omega] at q1
        exact hK _ _ (.mk (h.s13 g8 (fun k e=>(q8.lt k e).1) g1 q1))
     exact StepsOk.nil
    ·intro fuel a V hI
     cases hI with
     | mk h =>
      have q:=h.o13 (by decide)
      have m:=h.m
      clear h
      obtain ⟨v1a,v1n,v1c,rfl⟩:=owns_slice3 q
      have KV:=XK.keep m
      have ZV:=XZ.keep m
      obtain ⟨l0,l1⟩:V.cell? ⟨w.heap.size,0,none⟩=some (.int .i64 la)∧V.cell? ⟨w.heap.size,1,none⟩=some (.slice (some ⟨b,o,none⟩) us.length vc):=⟨KV.c 0,KV.c 1⟩
      have lf:=KV.f
      obtain ⟨o0,z0⟩:∃ v,V.cell? ⟨w.heap.size+1+1,0,none⟩=some v:=⟨_,ZV.c 0⟩
      obtain ⟨o1,z1⟩:∃ v,V.cell? ⟨w.heap.size+1+1,1,none⟩=some v:=⟨_,ZV.c 1⟩
      have zf:=ZV.f
      refine wpAny_ready (rs:=[14]) (by kernel_rfl) (by simp) ?_
      refine AllReady.cons rfl (fun Kq hK=>?_) AllReady.nil
      go_simp
      refine hK _ _ ?_
      clear hK Kq
      refine wpAny_ready (rs:=[15]) (by kernel_rfl) (by simp) ?_
      refine AllReady.cons rfl (fun Kq hK=>?_) AllReady.nil
      go_simp
      refine hK _ _ ?_
      clear hK Kq
      refine wpAny_done (by kernel_rfl) ?_ _
      go_wp2
      refine bodyPost_ret (v:=.agg #[.int .i64 la,.slice v1a v1n v1c]) (by simp [results,Tryz.results29,go_sem,z0,z1]) rfl ⟨_,k,rfl,hk,HLO.out,HHI.out,?_,?_⟩
      ·have hne:∀ j,(Value.slice v1a v1n v1c).ownBlock=some j→w.heap.size+1+1 < j:=fun j e=>by have:=(q.lt j e).1; omega
       refine owns_set (B:=w.heap.size+1+1) ?_ (fun j e=>by have:=hne j e; omega) _ _
       refine owns_set (B:=w.heap.size+1+1) ?_ (fun j e=>by have:=hne j e; omega) _ _
       refine owns_set (B:=w.heap.size) ?_ (fun j e=>by have:=hne j e; omega) _ _
       exact owns_lowerO q (by omega)
      ·refine Below.setCell ?_ (show w.heap.size≤w.heap.size+1+1 by omega) _
       refine Below.setCell ?_ (show w.heap.size≤w.heap.size+1+1 by omega) _
       refine Below.setCell ?_ (show w.heap.size≤w.heap.size from Nat.le_refl _) _
       exact B0.trans (m.mono B0.size)
  ·have m1:¬ (k:Int) < (us.length:Int):=by omega
   have HHI:Hid (∀ x,us[k]? = some x→ltN x.nm h0.nm=false):=fun x hx=>by rw [List.getElem?_eq_none (by omega)] at hx; cases hx
   go_wp2
   refine wp_region_cls (by kernel_rfl) (by kernel_rfl) ?_
   repeat (go_big_quiet_step (fail))
   refine wpQuiet_nil ?_
   rintro w3 ⟨u,rfl⟩
   have hb3:=u.same
   generalize u.it=w3 at *
   clear c1 c2 qn k0 k1 n0
   have B3:Below W0.heap.size W0 w3:=hb.trans (hb3.mono hb.size)
   clear XK XZ hHb hsw
   have XK:=XK0.keep B3
   have XZ:=XZ0.keep B3
   have hHb:=(B3.block _ (lt_of_block hH0)).trans hH0
   have B0':=B0.trans (B3.mono B0.size)
   have hsw:=hs.below B0'
   have zr3:=B3.size
   have k1:w3.cell? ⟨w.heap.size,1,none⟩=some (.slice va us.length vc):=XK.c 1
   have mk0:(0:Int)≤(k:Int):=by omega
   have mk1:(k:Int)≤(vc:Int):=by omega
   have mk2:(k:Int)≤(us.length:Int):=by omega
   clear B0
   have B0:=B0'
   have zK3:w.heap.size < w3.heap.size:=XK.lt
   have zH3:w.heap.size+1 < w3.heap.size:=lt_of_block hHb
   go_wp2
   refine region_invK 14 2 (by kernel_rfl) (by kernel_rfl) (by kernel_rfl) (by kernel_rfl) (PaI h0 va vc b o k w.heap.size us w3 la) (.mk (Pa.zero ((Below.refl _ _).drew))) ?_ ?_
   ·change StepsOk _ _ _ _ _ [0,1,2,3,4,5,6,7,8,9,10,11,12,13]
    refine StepsOk.cons rfl (fun L a V hL hd hI Kq hK=>?_) ?_
    ·cases hI with
     | mk h =>
      go_simp
      exact hK _ _ (.mk (h.s0))
    refine StepsOk.cons rfl (fun L a V hL hd hI Kq hK=>?_) ?_
    ·cases hI with
     | mk h =>
      go_simp
      exact hK _ _ (.mk (h.s1))
    refine StepsOk.cons rfl (fun L a V hL hd hI Kq hK=>?_) ?_
    ·cases hI with
     | mk h =>
      obtain rfl:=h.o1 (hd 1 (by kernel_rfl))
      have l1:V.cell? ⟨w.heap.size,1,none⟩=some (.slice va us.length vc):=(h.m.cell (p:=⟨w.heap.size,1,none⟩) zK3).trans k1
      go_simp
      exact hK _ _ (.mk (h.s2))
    refine StepsOk.cons rfl (fun L a V hL hd hI Kq hK=>?_) ?_
    ·cases hI with
     | mk h =>
      go_simp
      exact hK _ _ (.mk (h.s3))
    refine StepsOk.cons rfl (fun L a V hL hd hI Kq hK=>?_) ?_
    ·cases hI with
     | mk h =>
      obtain rfl:=h.o2 (hd 2 (by kernel_rfl))
      obtain rfl:=h.o3 (hd 3 (by kernel_rfl))
      cases va with
      | none =>
       go_simp
       exact hK _ _ (.mk h.s4)
      | some pa =>
       obtain ⟨pb,po,ps⟩:=pa
       go_simp
       exact hK _ _ (.mk h.s4)
    refine StepsOk.cons rfl (fun L a V hL hd hI Kq hK=>?_) ?_
    ·cases hI with
     | mk h =>
      have g0:L 0:=(hd 0 (by kernel_rfl))
      obtain ⟨e,hE,qE⟩:=h.o0 g0 hL
      subst e
      obtain rfl:=h.o4 (hd 4 (by kernel_rfl))
      rw [if_pos (by rfl)]
      refine append13 _ _ rfl w3.heap.size (.slice (some ⟨_,0,none⟩) 0 0) 0 [] rfl ⟨rfl,Or.inr ⟨_,0,#[],rfl,hE,qE,Nat.le_refl _,by unfold maxLen; omega,rfl,rfl⟩⟩ va k vc (hdCells (us.take k)) rfl (by rw [hdCells_length,List.length_take]; omega) (fun hk0=>⟨⟨b,o,none⟩,hsw.here (by intro e; rw [e] at hk; simp at hk; omega),fun j u hu=>?_⟩) (hdCells_one _) (by omega) h.m.size ?_
      ·rw [Addr.add_mid]
       have hj:j < k * 13:=by have:=(List.getElem?_eq_some_iff.1 hu).1; rwa [hdCells_length,List.length_take,Nat.min_eq_left hk] at this
       refine hds_cells (hsw.below h.m) j u ?_
       rw [← hdCells_take,List.getElem?_take,if_pos hj] at hu
       exact hu
      ·intro v1 V1 q1 g1
       rw [Nat.zero_add,List.nil_append] at q1
       exact hK _ _ (.mk (h.s5 hL g0 g1 q1))
    refine StepsOk.cons rfl (fun L a V hL hd hI Kq hK=>?_) ?_
    ·cases hI with
     | mk h =>
      have hHV:=(h.m.block _ zH3).trans hHb
      obtain ⟨f0,f1,f2,f3,f4,f5,f6,f7,f8,f9,f10,f11,f12⟩:=blk13 hHV
      go_simp
      exact hK _ _ (.mk (h.s6))
    refine StepsOk.cons rfl (fun L a V hL hd hI Kq hK=>?_) ?_
    ·cases hI with
     | mk h =>
      obtain rfl:=h.o6 (hd 6 (by kernel_rfl))
      go_simp
      exact hK _ _ (.mk (h.s7))
    refine StepsOk.cons rfl (fun L a V hL hd hI Kq hK=>?_) ?_
    ·cases hI with
     | mk h =>
      have g5:L 5:=(hd 5 (by kernel_rfl))
      have g7:L 7:=(hd 7 (by kernel_rfl))
      have q5:=h.o5 g5 hL
      obtain ⟨e,hB,qB⟩:=h.o7 g7 hL
      subst e
      rw [if_pos (by rfl)]
      refine append13 _ _ rfl w3.heap.size _ k (hdCells (us.take k)) rfl q5 (some ⟨_,0,none⟩) 1 1 h0.cl rfl (by rw [cl_length]) (fun _=>⟨_,rfl,cl_blockI qB⟩) (by rw [cl_hd]; exact hdCells_one _) (by omega) h.m.size ?_
      intro v1 V1 q1 g1
      rw [cl_hd,← hdCells_append] at q1
      exact hK _ _ (.mk (h.s8 hL g5 g7 (fun k e=>(q5.lt k e).1) g1 q1))
    refine StepsOk.cons rfl (fun L a V hL hd hI Kq hK=>?_) ?_
    ·cases hI with
     | mk h =>
      go_simp
      exact hK _ _ (.mk (h.s9))
    refine StepsOk.cons rfl (fun L a V hL hd hI Kq hK=>?_) ?_
    ·cases hI with
     | mk h =>
      obtain rfl:=h.o9 (hd 9 (by kernel_rfl))
      have l1:V.cell? ⟨w.heap.size,1,none⟩=some (.slice va us.length vc):=(h.m.cell (p:=⟨w.heap.size,1,none⟩) zK3).trans k1
      go_simp
      exact hK _ _ (.mk (h.s10))
    refine StepsOk.cons rfl (fun L a V hL hd hI Kq hK=>?_) ?_
    ·cases hI with
     | mk h =>
      go_simp
      exact hK _ _ (.mk (h.s11))
    refine StepsOk.cons rfl (fun L a V hL hd hI Kq hK=>?_) ?_
    ·cases hI with
     | mk h =>
      obtain rfl:=h.o10 (hd 10 (by kernel_rfl))
      obtain rfl:=h.o11 (hd 11 (by kernel_rfl))
      cases va with
      | none =>
       go_simp
       exact hK _ _ (.mk (h.s12 (fun x=>by omega)))
      | some pa =>
       obtain ⟨pb,po,ps⟩:=pa
       go_simp
       exact hK _ _ (.mk (h.s12 (fun x=>by omega)))
    refine StepsOk.cons rfl (fun L a V hL hd hI Kq hK=>?_) ?_
    ·cases hI with
     | mk h =>
      have g8:L 8:=(hd 8 (by kernel_rfl))
      have q8:=h.o8 g8 hL
      obtain ⟨sp,c,e,hsp⟩:=h.o12 (hd 12 (by kernel_rfl))
      subst e
      rw [if_pos (by rfl)]
      refine append13 _ _ rfl w3.heap.size _ (k+1) (hdCells (us.take k ++ [h0])) rfl q8 sp (us.length - k) c (hdCells (us.drop k)) rfl (by rw [hdCells_length,List.length_drop]) (fun hk0=>⟨_,hsp hk0,fun j u hu=>?_⟩) (hdCells_one _) (by omega) h.m.size ?_
      ·rw [Addr.add_mid]
       have:=hds_cells (hsw.below h.m) (k * 13+j) u (by rw [← hdCells_drop,List.getElem?_drop] at hu; exact hu)
       rwa [← Nat.add_assoc] at this
      ·intro v1 V1 q1 g1
       rw [← hdCells_append,List.append_assoc,show k+1+(us.length - k)=us.length+1 by omega] at q1
       exact hK _ _ (.mk (h.s13 g8 (fun k e=>(q8.lt k e).1) g1 q1))
    exact StepsOk.nil
   ·intro fuel a V hI
    cases hI with
    | mk h =>
     have q:=h.o13 (by decide)
     have m:=h.m
     clear h
     obtain ⟨v1a,v1n,v1c,rfl⟩:=owns_slice3 q
     have KV:=XK.keep m
     have ZV:=XZ.keep m
     obtain ⟨l0,l1⟩:V.cell? ⟨w.heap.size,0,none⟩=some (.int .i64 la)∧V.cell? ⟨w.heap.size,1,none⟩=some (.slice va us.length vc):=⟨KV.c 0,KV.c 1⟩
     have lf:=KV.f
     obtain ⟨o0,z0⟩:∃ v,V.cell? ⟨w.heap.size+1+1,0,none⟩=some v:=⟨_,ZV.c 0⟩
     obtain ⟨o1,z1⟩:∃ v,V.cell? ⟨w.heap.size+1+1,1,none⟩=some v:=⟨_,ZV.c 1⟩
     have zf:=ZV.f
     refine wpAny_ready (rs:=[14]) (by kernel_rfl) (by simp) ?_
     refine AllReady.cons rfl (fun Kq hK=>?_) AllReady.nil
     go_simp
     refine hK _ _ ?_
     clear hK Kq
     refine wpAny_ready (rs:=[15]) (by kernel_rfl) (by simp) ?_
     refine AllReady.cons rfl (fun Kq hK=>?_) AllReady.nil
     go_simp
     refine hK _ _ ?_
     clear hK Kq
     refine wpAny_done (by kernel_rfl) ?_ _
     go_wp2
     refine bodyPost_ret (v:=.agg #[.int .i64 la,.slice v1a v1n v1c]) (by simp [results,Tryz.results29,go_sem,z0,z1]) rfl ⟨_,k,rfl,hk,HLO.out,HHI.out,?_,?_⟩
     ·have hne:∀ j,(Value.slice v1a v1n v1c).ownBlock=some j→w.heap.size+1+1 < j:=fun j e=>by have:=(q.lt j e).1; omega
      refine owns_set (B:=w.heap.size+1+1) ?_ (fun j e=>by have:=hne j e; omega) _ _
      refine owns_set (B:=w.heap.size+1+1) ?_ (fun j e=>by have:=hne j e; omega) _ _
      refine owns_set (B:=w.heap.size) ?_ (fun j e=>by have:=hne j e; omega) _ _
      exact owns_lowerO q (by omega)
     ·refine Below.setCell ?_ (show w.heap.size≤w.heap.size+1+1 by omega) _
      refine Below.setCell ?_ (show w.heap.size≤w.heap.size+1+1 by omega) _
      refine Below.setCell ?_ (show w.heap.size≤w.heap.size from Nat.le_refl _) _
      exact B0.trans (m.mono B0.size)
end Go.Proofs.YtgjleeamhkolhaaGreatDoor
