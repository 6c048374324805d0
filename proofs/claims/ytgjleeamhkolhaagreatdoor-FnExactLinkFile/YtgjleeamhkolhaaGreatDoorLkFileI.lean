/- Joined texts: LkFileI. -/
import Derived.Laws.CopyOwn
import Derived.Test.YtgjleeamhkolhaaGreatDoorLkSendI
import Derived.Test.YtgjleeamhkolhaaGreatDoorJ08
import Derived.Test.YtgjleeamhkolhaaGreatDoorJ12
import Derived.Test.YtgjleeamhkolhaaGreatDoorJ02
import Derived.Test.YtgjleeamhkolhaaGreatDoorJ13
import Derived.Test.YtgjleeamhkolhaaGreatDoorJ01
namespace Go.Proofs.YtgjleeamhkolhaaGreatDoor
open Go.RowKit
abbrev Pt.nil:Pt:=⟨0,0,0,0,Option.none,0,0,0,[]⟩
abbrev fileH (p:Pt) (nm:ByteArray) (la:Int) (ya:Option Addr) (yc:Nat):Hd:=⟨nm,la+1,⟨p.q,p.s,p.fr,p.b,ya,0,0,yc,p.l⟩,0,Pt.nil⟩
theorem fileH_key (p:Pt) (nm:ByteArray) (la:Int) (ya:Option Addr) (yc:Nat):(fileH p nm la ya yc).key=(nm,la+1,p.key,0,(0,0,0,0,[])):=rfl
theorem owns_setRowF {V:World} {F base n:Nat} {v:Value} {xs:List Value} {cs:Array Value} (ho:V.ownsRow base 98 7 v n xs) (hF:V.heap[F]? = some (.cells cs 63 (0,0))) (cs':Array Value):(V.setRow F cs').ownsRow base 98 7 v n xs:=
 ⟨ho.1,ho.2.imp id fun ⟨g,cap,cur,h1,h2,h3,h4⟩=>⟨g,cap,cur,h1,h2,by
  have hne:g≠F:=fun e=>by
   rw [e,hF] at h3
   have:=congrArg (fun o=>match o with | some (Obj.cells _ t _)=>t | _=>0) h3
   simp at this
  rw [setRow_other V F g cs' (by first | exact hne | exact hne.symm)]
  exact h3,h4⟩⟩
theorem BkOwn.insert {W W':World} {base i:Nat} {v v':Value} {us:List Hd} {u:Hd} (h:BkOwn W base v us) (ho:W'.ownsRow base 63 13 v' (us.length+1) (hdCells (us.take i ++ u :: us.drop i))) (hi:i≤us.length) (hg:W.grownBy W' v.ownBlock) (hu:HdOwn W base u) (ha:∀ t∈us,HdApart t u):BkOwn W' base v' (us.take i ++ u :: us.drop i) where
 row:=by
  have e:(us.take i ++ u :: us.drop i).length=us.length+1:=by simp; omega
  rw [e]; exact ho
 each t ht:=by
  have hc:t∈us∨t=u:=by
   rcases List.mem_append.1 ht with ht | ht
   ·exact .inl (List.mem_of_mem_take ht)
   ·rcases List.mem_cons.1 ht with rfl | ht
    ·exact .inr rfl
    ·exact .inl (List.mem_of_mem_drop ht)
  rcases hc with hc | rfl
  ·have:=(h.hd hc).grown h.row hg
   exact ⟨this.p,this.x⟩
  ·have:=hu.grown h.row hg
   exact ⟨this.p,this.x⟩
 inn t ht:=by
  rcases List.mem_append.1 ht with ht | ht
  ·exact h.inn t (List.mem_of_mem_take ht)
  ·rcases List.mem_cons.1 ht with rfl | ht
   ·exact hu.inn
   ·exact h.inn t (List.mem_of_mem_drop ht)
 two:=by
  have h2:=h.two
  rw [← List.take_append_drop i us,List.pairwise_append] at h2
  rw [List.pairwise_append,List.pairwise_cons]
  refine ⟨h2.1,⟨fun t ht=>(ha t (List.mem_of_mem_drop ht)).symm,h2.2.1⟩,fun a ha' b hb=>?_⟩
  rcases List.mem_cons.1 hb with rfl | hb
  ·exact ha a (List.mem_of_mem_take ha')
  ·exact h2.2.2 a ha' b hb
structure Fa (p:Pt) (nm:ByteArray) (la:Int) (K:Nat) (w0:World) (L:Nat→Prop) (y7 y18 y19 y20 y21 y22 y23 y24 y25 y26:Value) (F:Nat) (V:World):Prop where
 m:Below w0.heap.size w0 V
 o0:L 0→y18=.string nm
 o1:L 1→y19=.pointer (some ⟨K,0,none⟩)
 o2:L 2→y20=.pointer (some ⟨K,0,none⟩)
 o3:L 3→y21=.pointer (some ⟨K,0,none⟩)
 o4:L 4→y22=.pointer (some ⟨K,0,none⟩)
 o5:L 5→y23=.int .i64 (la+1)
 o6:L 6→y24=p.val
 o7:L 7→∃ ya yc,y25=.agg #[.int .i64 p.q,.int .i64 p.s,.slice ya p.l.length yc,.int .i64 p.fr,.int .i64 p.b]∧V.ownsRow w0.heap.size 98 7 (.slice ya p.l.length yc) p.l.length (stepCells p.l)
 o8:L 8→∃ ya yc,y25=.agg #[.int .i64 p.q,.int .i64 p.s,.slice ya p.l.length yc,.int .i64 p.fr,.int .i64 p.b]∧y26=(fileH p nm la ya yc).val
 o9:L 9→y7=.pointer (some ⟨F,0,none⟩)∧w0.heap.size≤F∧∃ cs:Array Value,V.heap[F]? = some (.cells cs 63 (0,0))∧cs.size=13
 d8:L 8→L 7
section
variable {p:Pt} {nm:ByteArray} {la:Int} {K:Nat} {w0:World} {L:Nat→Prop} {y7 y18 y19 y20 y21 y22 y23 y24 y25 y26:Value} {F:Nat} {V V':World}
theorem Fa.grow (h:Fa p nm la K w0 L y7 y18 y19 y20 y21 y22 y23 y24 y25 y26 F V) (hb:Below V.heap.size V V'):Fa p nm la K w0 L y7 y18 y19 y20 y21 y22 y23 y24 y25 y26 F V':=
 ⟨h.m.trans (hb.mono h.m.size),
  h.o0,
  h.o1,
  h.o2,
  h.o3,
  h.o4,
  h.o5,
  h.o6,
  fun h7=>by obtain ⟨ya,yc,e,q⟩:=h.o7 h7; exact ⟨ya,yc,e,owns_below q hb⟩,
  h.o8,
  fun h9=>by obtain ⟨e,z,cs,q,r⟩:=h.o9 h9; exact ⟨e,z,cs,(hb.block _ (lt_of_block q)).trans q,r⟩,
  h.d8⟩
theorem Fa.s0 (h:Fa p nm la K w0 L y7 y18 y19 y20 y21 y22 y23 y24 y25 y26 F V)  : Fa p nm la K w0 (fun j=>j=0∨L j) y7 (.string nm) y19 y20 y21 y22 y23 y24 y25 y26 F V:=by
 exact ⟨h.m,
  fun _=>rfl,
  fun h1=>h.o1 (ol h1),
  fun h2=>h.o2 (ol h2),
  fun h3=>h.o3 (ol h3),
  fun h4=>h.o4 (ol h4),
  fun h5=>h.o5 (ol h5),
  fun h6=>h.o6 (ol h6),
  fun h7=>h.o7 (ol h7),
  fun h8=>h.o8 (ol h8),
  fun h9=>h.o9 (ol h9),
  fun h8=>Or.inr (h.d8 (ol h8))⟩
theorem Fa.s1 (h:Fa p nm la K w0 L y7 y18 y19 y20 y21 y22 y23 y24 y25 y26 F V)  : Fa p nm la K w0 (fun j=>j=1∨L j) y7 y18 (.pointer (some ⟨K,0,none⟩)) y20 y21 y22 y23 y24 y25 y26 F V:=by
 exact ⟨h.m,
  fun h0=>h.o0 (ol h0),
  fun _=>rfl,
  fun h2=>h.o2 (ol h2),
  fun h3=>h.o3 (ol h3),
  fun h4=>h.o4 (ol h4),
  fun h5=>h.o5 (ol h5),
  fun h6=>h.o6 (ol h6),
  fun h7=>h.o7 (ol h7),
  fun h8=>h.o8 (ol h8),
  fun h9=>h.o9 (ol h9),
  fun h8=>Or.inr (h.d8 (ol h8))⟩
theorem Fa.s2 (h:Fa p nm la K w0 L y7 y18 y19 y20 y21 y22 y23 y24 y25 y26 F V)  : Fa p nm la K w0 (fun j=>j=2∨L j) y7 y18 y19 (.pointer (some ⟨K,0,none⟩)) y21 y22 y23 y24 y25 y26 F V:=by
 exact ⟨h.m,
  fun h0=>h.o0 (ol h0),
  fun h1=>h.o1 (ol h1),
  fun _=>rfl,
  fun h3=>h.o3 (ol h3),
  fun h4=>h.o4 (ol h4),
  fun h5=>h.o5 (ol h5),
  fun h6=>h.o6 (ol h6),
  fun h7=>h.o7 (ol h7),
  fun h8=>h.o8 (ol h8),
  fun h9=>h.o9 (ol h9),
  fun h8=>Or.inr (h.d8 (ol h8))⟩
theorem Fa.s3 (h:Fa p nm la K w0 L y7 y18 y19 y20 y21 y22 y23 y24 y25 y26 F V)  : Fa p nm la K w0 (fun j=>j=3∨L j) y7 y18 y19 y20 (.pointer (some ⟨K,0,none⟩)) y22 y23 y24 y25 y26 F V:=by
 exact ⟨h.m,
  fun h0=>h.o0 (ol h0),
  fun h1=>h.o1 (ol h1),
  fun h2=>h.o2 (ol h2),
  fun _=>rfl,
  fun h4=>h.o4 (ol h4),
  fun h5=>h.o5 (ol h5),
  fun h6=>h.o6 (ol h6),
  fun h7=>h.o7 (ol h7),
  fun h8=>h.o8 (ol h8),
  fun h9=>h.o9 (ol h9),
  fun h8=>Or.inr (h.d8 (ol h8))⟩
theorem Fa.s4 (h:Fa p nm la K w0 L y7 y18 y19 y20 y21 y22 y23 y24 y25 y26 F V)  : Fa p nm la K w0 (fun j=>j=4∨L j) y7 y18 y19 y20 y21 (.pointer (some ⟨K,0,none⟩)) y23 y24 y25 y26 F V:=by
 exact ⟨h.m,
  fun h0=>h.o0 (ol h0),
  fun h1=>h.o1 (ol h1),
  fun h2=>h.o2 (ol h2),
  fun h3=>h.o3 (ol h3),
  fun _=>rfl,
  fun h5=>h.o5 (ol h5),
  fun h6=>h.o6 (ol h6),
  fun h7=>h.o7 (ol h7),
  fun h8=>h.o8 (ol h8),
  fun h9=>h.o9 (ol h9),
  fun h8=>Or.inr (h.d8 (ol h8))⟩
theorem Fa.s5 (h:Fa p nm la K w0 L y7 y18 y19 y20 y21 y22 y23 y24 y25 y26 F V)  : Fa p nm la K w0 (fun j=>j=5∨L j) y7 y18 y19 y20 y21 y22 (.int .i64 (la+1)) y24 y25 y26 F V:=by
 exact ⟨h.m,
  fun h0=>h.o0 (ol h0),
  fun h1=>h.o1 (ol h1),
  fun h2=>h.o2 (ol h2),
  fun h3=>h.o3 (ol h3),
  fun h4=>h.o4 (ol h4),
  fun _=>rfl,
  fun h6=>h.o6 (ol h6),
  fun h7=>h.o7 (ol h7),
  fun h8=>h.o8 (ol h8),
  fun h9=>h.o9 (ol h9),
  fun h8=>Or.inr (h.d8 (ol h8))⟩
theorem Fa.s6 (h:Fa p nm la K w0 L y7 y18 y19 y20 y21 y22 y23 y24 y25 y26 F V)  : Fa p nm la K w0 (fun j=>j=6∨L j) y7 y18 y19 y20 y21 y22 y23 p.val y25 y26 F V:=by
 exact ⟨h.m,
  fun h0=>h.o0 (ol h0),
  fun h1=>h.o1 (ol h1),
  fun h2=>h.o2 (ol h2),
  fun h3=>h.o3 (ol h3),
  fun h4=>h.o4 (ol h4),
  fun h5=>h.o5 (ol h5),
  fun _=>rfl,
  fun h7=>h.o7 (ol h7),
  fun h8=>h.o8 (ol h8),
  fun h9=>h.o9 (ol h9),
  fun h8=>Or.inr (h.d8 (ol h8))⟩
theorem Fa.s7 (h:Fa p nm la K w0 L y7 y18 y19 y20 y21 y22 y23 y24 y25 y26 F V) (n7:¬ L 7) {ya:Option Addr} {yc:Nat} (q:V.ownsRow w0.heap.size 98 7 (.slice ya p.l.length yc) p.l.length (stepCells p.l)):Fa p nm la K w0 (fun j=>j=7∨L j) y7 y18 y19 y20 y21 y22 y23 y24 (.agg #[.int .i64 p.q,.int .i64 p.s,.slice ya p.l.length yc,.int .i64 p.fr,.int .i64 p.b]) y26 F V:=by
 exact ⟨h.m,
  fun h0=>h.o0 (ol h0),
  fun h1=>h.o1 (ol h1),
  fun h2=>h.o2 (ol h2),
  fun h3=>h.o3 (ol h3),
  fun h4=>h.o4 (ol h4),
  fun h5=>h.o5 (ol h5),
  fun h6=>h.o6 (ol h6),
  fun _=>⟨ya,yc,rfl,q⟩,
  fun z=>absurd (ol z) (fun z=>n7 (h.d8 z)),
  fun h9=>h.o9 (ol h9),
  fun _=>Or.inl rfl⟩
theorem Fa.s8 (h:Fa p nm la K w0 L y7 y18 y19 y20 y21 y22 y23 y24 y25 y26 F V) (g7:L 7) {ya:Option Addr} {yc:Nat} (e:y25=.agg #[.int .i64 p.q,.int .i64 p.s,.slice ya p.l.length yc,.int .i64 p.fr,.int .i64 p.b]):Fa p nm la K w0 (fun j=>j=8∨L j) y7 y18 y19 y20 y21 y22 y23 y24 y25 (fileH p nm la ya yc).val F V:=by
 exact ⟨h.m,
  fun h0=>h.o0 (ol h0),
  fun h1=>h.o1 (ol h1),
  fun h2=>h.o2 (ol h2),
  fun h3=>h.o3 (ol h3),
  fun h4=>h.o4 (ol h4),
  fun h5=>h.o5 (ol h5),
  fun h6=>h.o6 (ol h6),
  fun h7=>h.o7 (ol h7),
  fun _=>⟨ya,yc,e,rfl⟩,
  fun h9=>h.o9 (ol h9),
  fun _=>Or.inr g7⟩
theorem Fa.s9 (h:Fa p nm la K w0 L y7 y18 y19 y20 y21 y22 y23 y24 y25 y26 F V)  : Fa p nm la K w0 (fun j=>j=9∨L j) (.pointer (some ⟨V.heap.size,0,none⟩)) y18 y19 y20 y21 y22 y23 y24 y25 y26 V.heap.size (V.alloc (.cells #[.string ⟨#[]⟩,.int .i64 0,.int .i64 0,.int .i64 0,.slice none 0 0,.int .i64 0,.int .i64 0,.int .i64 0,.int .i64 0,.int .i64 0,.slice none 0 0,.int .i64 0,.int .i64 0] 63)):=by
 have h2:=h.grow (bel1 (.cells #[.string ⟨#[]⟩,.int .i64 0,.int .i64 0,.int .i64 0,.slice none 0 0,.int .i64 0,.int .i64 0,.int .i64 0,.int .i64 0,.int .i64 0,.slice none 0 0,.int .i64 0,.int .i64 0] 63))
 exact ⟨h2.m,
  fun h0=>h.o0 (ol h0),
  fun h1=>h.o1 (ol h1),
  fun h2=>h.o2 (ol h2),
  fun h3=>h.o3 (ol h3),
  fun h4=>h.o4 (ol h4),
  fun h5=>h.o5 (ol h5),
  fun h6=>h.o6 (ol h6),
  fun z=>h2.o7 (ol z),
  fun h8=>h.o8 (ol h8),
  fun _=>⟨rfl,h.m.size,_,heap_alloc_new V (.cells #[.string ⟨#[]⟩,.int .i64 0,.int .i64 0,.int .i64 0,.slice none 0 0,.int .i64 0,.int .i64 0,.int .i64 0,.int .i64 0,.int .i64 0,.slice none 0 0,.int .i64 0,.int .i64 0] 63),rfl⟩,
  fun h8=>Or.inr (h.d8 (ol h8))⟩
theorem Fa.zero (m:Below w0.heap.size w0 V):Fa p nm la K w0 (fun _=>False) y7 y18 y19 y20 y21 y22 y23 y24 y25 y26 0 V:=⟨m,fun h=>h.elim,fun h=>h.elim,fun h=>h.elim,fun h=>h.elim,fun h=>h.elim,fun h=>h.elim,fun h=>h.elim,fun h=>h.elim,fun h=>h.elim,fun h=>h.elim,fun h=>h.elim⟩
end
inductive FaI (p:Pt) (nm:ByteArray) (la:Int) (K:Nat) (w0:World) (N P:Nat):(Nat→Prop)→Act→World→Prop
 | mk {L:Nat→Prop} {x9 x10 x11 x12 x13 x14 x15 x16 x17 x27 x28 x29 x30 x31 x32 x33 x34 x35 x36 x37 x38 x39 x40 x41 x42 x43 x44 x45 x46 x47 x48 x49 x50 x51 x52 x53 x54 x55 x56 x57 x58 x59 x60 x61 x62 x63 x64 y7 y18 y19 y20 y21 y22 y23 y24 y25 y26:Value} {F:Nat} {V:World} (h:Fa p nm la K w0 L y7 y18 y19 y20 y21 y22 y23 y24 y25 y26 F V):FaI p nm la K w0 N P L ⟨#[.pointer (some ⟨K,0,none⟩),.string nm,p.val,undef,.pointer (some ⟨N,0,none⟩),.pointer (some ⟨P,0,none⟩),.nilIface,y7,undef,x9,x10,x11,x12,x13,x14,x15,x16,x17,y18,y19,y20,y21,y22,y23,y24,y25,y26,x27,x28,x29,x30,x31,x32,x33,x34,x35,x36,x37,x38,x39,x40,x41,x42,x43,x44,x45,x46,x47,x48,x49,x50,x51,x52,x53,x54,x55,x56,x57,x58,x59,x60,x61,x62,x63,x64],[]⟩ V
structure Fb (v:Value) (u:Hd) (i K base:Nat) (us:List Hd) (w0:World) (L:Nat→Prop) (y42 y43 y44 y45 y46 y47 y48 y49 y50 y51:Value) (B:Nat) (V:World):Prop where
 m:¬ L 9→Below w0.heap.size w0 V
 o0:L 0→y42=.pointer (some ⟨K,0,none⟩)
 o1:L 1→y43=.pointer (some ⟨K,0,none⟩)
 o2:L 2→y44=.pointer (some ⟨K,0,none⟩)
 o3:L 3→y45=.pointer (some ⟨K,0,none⟩)
 o4:L 4→y46=.pointer (some ⟨K,1,none⟩)
 o5:L 5→y47=v
 o6:L 6→y48=.int .i64 (i:Int)
 o7:L 7→y49=u.val
 o8:L 8→¬ L 9→y50=.slice (some ⟨B,0,none⟩) 1 1∧w0.heap.size≤B∧V.heap[B]? = some (.cells u.cl.toArray 63 (0,0))
 o9:L 9→w0.grownBy V v.ownBlock∧V.ownsRow base 63 13 y51 (us.length+1) (hdCells (us.take i ++ u :: us.drop i))
 d95:L 9→L 5
 d98:L 9→L 8
 d87:L 8→L 7
section
variable {v:Value} {u:Hd} {i K base:Nat} {us:List Hd} {w0:World} {L:Nat→Prop} {y42 y43 y44 y45 y46 y47 y48 y49 y50 y51:Value} {B:Nat} {V V':World}
theorem Fb.s0 (h:Fb v u i K base us w0 L y42 y43 y44 y45 y46 y47 y48 y49 y50 y51 B V)  : Fb v u i K base us w0 (fun j=>j=0∨L j) (.pointer (some ⟨K,0,none⟩)) y43 y44 y45 y46 y47 y48 y49 y50 y51 B V:=by
 exact ⟨fun n9=>h.m (fun z=>n9 (Or.inr z)),
  fun _=>rfl,
  fun h1=>h.o1 (ol h1),
  fun h2=>h.o2 (ol h2),
  fun h3=>h.o3 (ol h3),
  fun h4=>h.o4 (ol h4),
  fun h5=>h.o5 (ol h5),
  fun h6=>h.o6 (ol h6),
  fun h7=>h.o7 (ol h7),
  fun h8 n9=>h.o8 (ol h8) (fun z=>n9 (Or.inr z)),
  fun h9=>h.o9 (ol h9),
  fun h9=>Or.inr (h.d95 (ol h9)),
  fun h9=>Or.inr (h.d98 (ol h9)),
  fun h8=>Or.inr (h.d87 (ol h8))⟩
theorem Fb.s1 (h:Fb v u i K base us w0 L y42 y43 y44 y45 y46 y47 y48 y49 y50 y51 B V)  : Fb v u i K base us w0 (fun j=>j=1∨L j) y42 (.pointer (some ⟨K,0,none⟩)) y44 y45 y46 y47 y48 y49 y50 y51 B V:=by
 exact ⟨fun n9=>h.m (fun z=>n9 (Or.inr z)),
  fun h0=>h.o0 (ol h0),
  fun _=>rfl,
  fun h2=>h.o2 (ol h2),
  fun h3=>h.o3 (ol h3),
  fun h4=>h.o4 (ol h4),
  fun h5=>h.o5 (ol h5),
  fun h6=>h.o6 (ol h6),
  fun h7=>h.o7 (ol h7),
  fun h8 n9=>h.o8 (ol h8) (fun z=>n9 (Or.inr z)),
  fun h9=>h.o9 (ol h9),
  fun h9=>Or.inr (h.d95 (ol h9)),
  fun h9=>Or.inr (h.d98 (ol h9)),
  fun h8=>Or.inr (h.d87 (ol h8))⟩
theorem Fb.s2 (h:Fb v u i K base us w0 L y42 y43 y44 y45 y46 y47 y48 y49 y50 y51 B V)  : Fb v u i K base us w0 (fun j=>j=2∨L j) y42 y43 (.pointer (some ⟨K,0,none⟩)) y45 y46 y47 y48 y49 y50 y51 B V:=by
 exact ⟨fun n9=>h.m (fun z=>n9 (Or.inr z)),
  fun h0=>h.o0 (ol h0),
  fun h1=>h.o1 (ol h1),
  fun _=>rfl,
  fun h3=>h.o3 (ol h3),
  fun h4=>h.o4 (ol h4),
  fun h5=>h.o5 (ol h5),
  fun h6=>h.o6 (ol h6),
  fun h7=>h.o7 (ol h7),
  fun h8 n9=>h.o8 (ol h8) (fun z=>n9 (Or.inr z)),
  fun h9=>h.o9 (ol h9),
  fun h9=>Or.inr (h.d95 (ol h9)),
  fun h9=>Or.inr (h.d98 (ol h9)),
  fun h8=>Or.inr (h.d87 (ol h8))⟩
theorem Fb.s3 (h:Fb v u i K base us w0 L y42 y43 y44 y45 y46 y47 y48 y49 y50 y51 B V)  : Fb v u i K base us w0 (fun j=>j=3∨L j) y42 y43 y44 (.pointer (some ⟨K,0,none⟩)) y46 y47 y48 y49 y50 y51 B V:=by
 exact ⟨fun n9=>h.m (fun z=>n9 (Or.inr z)),
  fun h0=>h.o0 (ol h0),
  fun h1=>h.o1 (ol h1),
  fun h2=>h.o2 (ol h2),
  fun _=>rfl,
  fun h4=>h.o4 (ol h4),
  fun h5=>h.o5 (ol h5),
  fun h6=>h.o6 (ol h6),
  fun h7=>h.o7 (ol h7),
  fun h8 n9=>h.o8 (ol h8) (fun z=>n9 (Or.inr z)),
  fun h9=>h.o9 (ol h9),
  fun h9=>Or.inr (h.d95 (ol h9)),
  fun h9=>Or.inr (h.d98 (ol h9)),
  fun h8=>Or.inr (h.d87 (ol h8))⟩
theorem Fb.s4 (h:Fb v u i K base us w0 L y42 y43 y44 y45 y46 y47 y48 y49 y50 y51 B V)  : Fb v u i K base us w0 (fun j=>j=4∨L j) y42 y43 y44 y45 (.pointer (some ⟨K,1,none⟩)) y47 y48 y49 y50 y51 B V:=by
 exact ⟨fun n9=>h.m (fun z=>n9 (Or.inr z)),
  fun h0=>h.o0 (ol h0),
  fun h1=>h.o1 (ol h1),
  fun h2=>h.o2 (ol h2),
  fun h3=>h.o3 (ol h3),
  fun _=>rfl,
  fun h5=>h.o5 (ol h5),
  fun h6=>h.o6 (ol h6),
  fun h7=>h.o7 (ol h7),
  fun h8 n9=>h.o8 (ol h8) (fun z=>n9 (Or.inr z)),
  fun h9=>h.o9 (ol h9),
  fun h9=>Or.inr (h.d95 (ol h9)),
  fun h9=>Or.inr (h.d98 (ol h9)),
  fun h8=>Or.inr (h.d87 (ol h8))⟩
theorem Fb.s5 (h:Fb v u i K base us w0 L y42 y43 y44 y45 y46 y47 y48 y49 y50 y51 B V)  : Fb v u i K base us w0 (fun j=>j=5∨L j) y42 y43 y44 y45 y46 v y48 y49 y50 y51 B V:=by
 exact ⟨fun n9=>h.m (fun z=>n9 (Or.inr z)),
  fun h0=>h.o0 (ol h0),
  fun h1=>h.o1 (ol h1),
  fun h2=>h.o2 (ol h2),
  fun h3=>h.o3 (ol h3),
  fun h4=>h.o4 (ol h4),
  fun _=>rfl,
  fun h6=>h.o6 (ol h6),
  fun h7=>h.o7 (ol h7),
  fun h8 n9=>h.o8 (ol h8) (fun z=>n9 (Or.inr z)),
  fun h9=>h.o9 (ol h9),
  fun _=>Or.inl rfl,
  fun h9=>Or.inr (h.d98 (ol h9)),
  fun h8=>Or.inr (h.d87 (ol h8))⟩
theorem Fb.s6 (h:Fb v u i K base us w0 L y42 y43 y44 y45 y46 y47 y48 y49 y50 y51 B V)  : Fb v u i K base us w0 (fun j=>j=6∨L j) y42 y43 y44 y45 y46 y47 (.int .i64 (i:Int)) y49 y50 y51 B V:=by
 exact ⟨fun n9=>h.m (fun z=>n9 (Or.inr z)),
  fun h0=>h.o0 (ol h0),
  fun h1=>h.o1 (ol h1),
  fun h2=>h.o2 (ol h2),
  fun h3=>h.o3 (ol h3),
  fun h4=>h.o4 (ol h4),
  fun h5=>h.o5 (ol h5),
  fun _=>rfl,
  fun h7=>h.o7 (ol h7),
  fun h8 n9=>h.o8 (ol h8) (fun z=>n9 (Or.inr z)),
  fun h9=>h.o9 (ol h9),
  fun h9=>Or.inr (h.d95 (ol h9)),
  fun h9=>Or.inr (h.d98 (ol h9)),
  fun h8=>Or.inr (h.d87 (ol h8))⟩
theorem Fb.s7 (h:Fb v u i K base us w0 L y42 y43 y44 y45 y46 y47 y48 y49 y50 y51 B V)  : Fb v u i K base us w0 (fun j=>j=7∨L j) y42 y43 y44 y45 y46 y47 y48 u.val y50 y51 B V:=by
 exact ⟨fun n9=>h.m (fun z=>n9 (Or.inr z)),
  fun h0=>h.o0 (ol h0),
  fun h1=>h.o1 (ol h1),
  fun h2=>h.o2 (ol h2),
  fun h3=>h.o3 (ol h3),
  fun h4=>h.o4 (ol h4),
  fun h5=>h.o5 (ol h5),
  fun h6=>h.o6 (ol h6),
  fun _=>rfl,
  fun h8 n9=>h.o8 (ol h8) (fun z=>n9 (Or.inr z)),
  fun h9=>h.o9 (ol h9),
  fun h9=>Or.inr (h.d95 (ol h9)),
  fun h9=>Or.inr (h.d98 (ol h9)),
  fun _=>Or.inl rfl⟩
theorem Fb.s8 (h:Fb v u i K base us w0 L y42 y43 y44 y45 y46 y47 y48 y49 y50 y51 B V) (n8:¬ L 8) (g7:L 7):Fb v u i K base us w0 (fun j=>j=8∨L j) y42 y43 y44 y45 y46 y47 y48 y49 (.slice (some ⟨V.heap.size,0,none⟩) 1 1) y51 V.heap.size (V.alloc (.cells u.cl.toArray 63)):=by
 exact ⟨fun _=>(h.m (fun z=>n8 (h.d98 z))).trans ((bel1 (.cells u.cl.toArray 63)).mono (h.m (fun z=>n8 (h.d98 z))).size),
  fun h0=>h.o0 (ol h0),
  fun h1=>h.o1 (ol h1),
  fun h2=>h.o2 (ol h2),
  fun h3=>h.o3 (ol h3),
  fun h4=>h.o4 (ol h4),
  fun h5=>h.o5 (ol h5),
  fun h6=>h.o6 (ol h6),
  fun h7=>h.o7 (ol h7),
  fun _ _=>⟨rfl,(h.m (fun z=>n8 (h.d98 z))).size,heap_alloc_new V (.cells u.cl.toArray 63)⟩,
  fun z=>absurd (ol z) (fun z=>n8 (h.d98 z)),
  fun h9=>Or.inr (h.d95 (ol h9)),
  fun _=>Or.inl rfl,
  fun _=>Or.inr g7⟩
theorem Fb.s9 (h:Fb v u i K base us w0 L y42 y43 y44 y45 y46 y47 y48 y49 y50 y51 B V) (g5:L 5) (g8:L 8) {v':Value} {V':World} (q:w0.grownBy V' v.ownBlock∧V'.ownsRow base 63 13 v' (us.length+1) (hdCells (us.take i ++ u :: us.drop i))):Fb v u i K base us w0 (fun j=>j=9∨L j) y42 y43 y44 y45 y46 y47 y48 y49 y50 v' B V':=by
 exact ⟨fun n=>absurd (Or.inl rfl) n,
  fun h0=>h.o0 (ol h0),
  fun h1=>h.o1 (ol h1),
  fun h2=>h.o2 (ol h2),
  fun h3=>h.o3 (ol h3),
  fun h4=>h.o4 (ol h4),
  fun h5=>h.o5 (ol h5),
  fun h6=>h.o6 (ol h6),
  fun h7=>h.o7 (ol h7),
  fun _ n=>absurd (Or.inl rfl) n,
  fun _=>q,
  fun _=>Or.inr g5,
  fun _=>Or.inr g8,
  fun h8=>Or.inr (h.d87 (ol h8))⟩
theorem Fb.zero (m:Below w0.heap.size w0 V):Fb v u i K base us w0 (fun _=>False) y42 y43 y44 y45 y46 y47 y48 y49 y50 y51 0 V:=⟨fun _=>m,fun h=>h.elim,fun h=>h.elim,fun h=>h.elim,fun h=>h.elim,fun h=>h.elim,fun h=>h.elim,fun h=>h.elim,fun h=>h.elim,fun h _=>h.elim,fun h=>h.elim,fun h=>h.elim,fun h=>h.elim,fun h=>h.elim⟩
end
inductive FbI (v:Value) (u:Hd) (i K base:Nat) (us:List Hd) (w0:World) (N P F:Nat) (nm:ByteArray) (p:Pt):(Nat→Prop)→Act→World→Prop
 | mk {L:Nat→Prop} {x9 x10 x11 x12 x13 x14 x15 x16 x17 x18 x19 x20 x21 x22 x23 x24 x25 x26 x27 x28 x29 x30 x31 x32 x33 x34 x35 x36 x37 x38 x39 x40 x41 x52 x53 x54 x55 x56 x57 x58 x59 x60 x61 x62 x63 x64 y42 y43 y44 y45 y46 y47 y48 y49 y50 y51:Value} {B:Nat} {V:World} (h:Fb v u i K base us w0 L y42 y43 y44 y45 y46 y47 y48 y49 y50 y51 B V):FbI v u i K base us w0 N P F nm p L ⟨#[.pointer (some ⟨K,0,none⟩),.string nm,p.val,undef,.pointer (some ⟨N,0,none⟩),.pointer (some ⟨P,0,none⟩),.nilIface,.pointer (some ⟨F,0,none⟩),.int .i64 (i:Int),x9,x10,x11,x12,x13,x14,x15,x16,x17,x18,x19,x20,x21,x22,x23,x24,x25,x26,x27,x28,x29,x30,x31,x32,x33,x34,x35,x36,x37,x38,x39,x40,x41,y42,y43,y44,y45,y46,y47,y48,y49,y50,y51,x52,x53,x54,x55,x56,x57,x58,x59,x60,x61,x62,x63,x64],[]⟩ V
theorem blk13 {w:World} {B:Nat} {u:Hd} {t:TypeId} (h:w.heap[B]? = some (.cells u.cl.toArray t (0,0))) :
  w.cell? ⟨B,0,none⟩=some (.string u.nm)∧w.cell? ⟨B,1,none⟩=some (.int .i64 u.n)∧w.cell? ⟨B,2,none⟩=some (.int .i64 u.p.q)∧w.cell? ⟨B,3,none⟩=some (.int .i64 u.p.s)∧w.cell? ⟨B,4,none⟩=some (.slice u.p.a u.p.l.length u.p.cap)∧w.cell? ⟨B,5,none⟩=some (.int .i64 u.p.fr)∧w.cell? ⟨B,6,none⟩=some (.int .i64 u.p.b)∧w.cell? ⟨B,7,none⟩=some (.int .i64 u.sn)∧w.cell? ⟨B,8,none⟩=some (.int .i64 u.x.q)∧w.cell? ⟨B,9,none⟩=some (.int .i64 u.x.s)∧w.cell? ⟨B,10,none⟩=some (.slice u.x.a u.x.l.length u.x.cap)∧w.cell? ⟨B,11,none⟩=some (.int .i64 u.x.fr)∧w.cell? ⟨B,12,none⟩=some (.int .i64 u.x.b):=by
 refine ⟨?_,?_,?_,?_,?_,?_,?_,?_,?_,?_,?_,?_,?_⟩ <;> simp [World.cell?,h]
theorem ptAt_grown {w w':World} {p:Pt} {row:Option Nat} (h:PtAt w p) (hg:w.grownBy w' row) (hr:p.l≠[]→row≠some p.b0):PtAt w' p where
 here:=h.here
 lt hl:=Nat.lt_of_lt_of_le (h.lt hl) hg.size
 cell i s hi j v hv:=by
  have hne:p.l≠[]:=by intro e; rw [e] at hi; simp at hi
  rw [World.cell?_of_block (w:=w) (hg.block p.b0 (h.lt hne) (fun e=>hr hne e.symm))]
  exact h.cell i s hi j v hv
theorem owns_slice3 {W:World} {base e s n:Nat} {v:Value} {xs:List Value} (h:W.ownsRow base e s v n xs):∃ a k c,v=.slice a k c:=by
 rcases h.2 with ⟨e1,_⟩ | ⟨g',c',_,e1,_⟩
 ·exact ⟨_,_,_,e1⟩
 ·exact ⟨_,_,_,e1⟩
theorem grown_after {a b c:World} {row:Option Nat} (h:Below a.heap.size a b) (k:b.grownBy c row):a.grownBy c row:=
 ⟨k.os.trans h.os,k.tape.trans h.tape,k.output.trans h.output,Nat.le_trans h.size k.size,fun i hi hne=>(k.block i (Nat.lt_of_lt_of_le hi h.size) hne).trans (h.block i hi)⟩
set_option maxRecDepth 20000 in
set_option maxHeartbeats 8000000 in
theorem file_any (p:Pt) (nm:ByteArray) (w W:World) (K base:Nat) (la:Int) (va:Option Addr) (vc:Nat) (us:List Hd) (hla:0≤la∧la≤1000000) (hpl:p.l.length≤1048576) (hpa:p.a=some ⟨p.b0,p.o,none⟩) (hp:PtAt W p) (hpK:p.l≠[]→p.b0 < K) (hul:us.length≤900) (hbW:base≤W.heap.size) (h:HrW w W K base la (.slice va us.length vc) us) (hno:∀ t∈us,¬ t.nm=nm) :
  Calls Tryz.prog 38 #[.pointer (some ⟨K,0,none⟩),.string nm,p.val] W fun e w'=>∃ v' us',e=.returned (.iface 116 (.agg #[.string nm,.int .i64 (la+1),.int .i64 p.q,.int .i64 p.s,.slice p.a p.l.length p.cap,.int .i64 p.fr,.int .i64 p.b])) ∧
   us'.map Hd.key=putK (us.map Hd.key) (nm,la+1,p.key,0,(0,0,0,0,[]))∧HrW w w' K base (la+1) v' us'∧PtAt w' p:=by
 have lw:IntKind.i64.wrap (la+1)=la+1:=by rw [IntKind.wrap_i64]; omega
 have HPA:Hid (p.a=some ⟨p.b0,p.o,none⟩):=hpa
 have HNO:Hid (∀ t∈us,¬ t.nm=nm):=hno
 clear hpa hno
 have hKW:=h.bk.lt
 have hkb:=h.kb
 have hKo:=h.k
 obtain ⟨W1,hW1⟩:∃ W1,(W.alloc (.cells #[.string nm] 9)).alloc (.cells #[.int .i64 p.q,.int .i64 p.s,.slice p.a p.l.length p.cap,.int .i64 p.fr,.int .i64 p.b] 38)=W1:=⟨_,rfl⟩
 have B1:Below W.heap.size W W1:=by rw [← hW1]; exact bel2 _ _
 have h1:=h.keep B1
 have N1:Cbx W1 W.heap.size #[.string nm]:=by rw [← hW1]; exact (Cbx.new W #[.string nm] 9).keep (bel1 _)
 have P1:Cbx W1 (W.heap.size+1) #[.int .i64 p.q,.int .i64 p.s,.slice p.a p.l.length p.cap,.int .i64 p.fr,.int .i64 p.b]:=by
  rw [← hW1]
  have h:=Cbx.new (W.alloc (.cells #[.string nm] 9)) #[.int .i64 p.q,.int .i64 p.s,.slice p.a p.l.length p.cap,.int .i64 p.fr,.int .i64 p.b] 38
  rwa [World.size_alloc] at h
 have x0:W1.cell? ⟨K,0,none⟩=some (.int .i64 la):=h1.bk.c 0
 have xf:W1.frozen? ⟨K,0,none⟩=false:=h1.bk.f 0
 have h2:=h1.last (la+1)
 obtain ⟨W2,hW2⟩:∃ W2,W1.setCell ⟨K,0,none⟩ (.int .i64 (la+1))=W2:=⟨_,rfl⟩
 rw [hW2] at h2
 have gK:W1.grownBy W2 (some K):=by rw [← hW2]; exact grown_set _ _ _
 have sK:Spared [K] W1 W2:=Spared.grown gK (fun k e=>by cases e; simp)
 have N2:=N1.spared sK (by simp; omega)
 have P2:=P1.spared sK (by simp; omega)
 have p2:PtAt W2 p:=PtAt.grownS (hp.below B1 hp.lt) gK (fun hl=>by have:=hpK hl; omega)
 have zW:W2.heap.size=W1.heap.size:=by rw [← hW2]; simp [World.setCell]
 have z1:=P1.lt
 have zN:W.heap.size < W2.heap.size:=by omega
 have zP:W.heap.size+1 < W2.heap.size:=by omega
 have zK:K < W2.heap.size:=by omega
 have n0:W2.cell? ⟨W.heap.size,0,none⟩=some (.string nm):=N2.c 0
 obtain ⟨p0,p1,p2',p3,p4⟩:W2.cell? ⟨W.heap.size+1,0,none⟩=some (.int .i64 p.q)∧W2.cell? ⟨W.heap.size+1,1,none⟩=some (.int .i64 p.s)∧W2.cell? ⟨W.heap.size+1,2,none⟩=some (.slice p.a p.l.length p.cap)∧W2.cell? ⟨W.heap.size+1,3,none⟩=some (.int .i64 p.fr)∧W2.cell? ⟨W.heap.size+1,4,none⟩=some (.int .i64 p.b):=⟨P2.c 0,P2.c 1,P2.c 2,P2.c 3,P2.c 4⟩
 have k0:W2.cell? ⟨K,0,none⟩=some (.int .i64 (la+1)):=h2.bk.c 0
 have HC:Hid (∀ X (_:Below W2.heap.size W2 X),_):=fun X hb=>copiedI_pt p X hpl HPA.out (p2.below hb p2.lt)
 clear hp h1 N1 P1 gK sK B1
 go_enter Tryz.func38,Tryz.ntmps38
 go_wp2
 clear x0 xf hW2 hW1
 go_cut [7] (fun s7 wc=>∃ (F:Nat) (ya:Option Addr) (yc:Nat),s7=.pointer (some ⟨F,0,none⟩)∧W2.heap.size≤F∧wc.heap[F]? = some (.cells (fileH p nm la ya yc).cl.toArray 63 (0,0))∧wc.ownsRow W2.heap.size 98 7 (.slice ya p.l.length yc) p.l.length (stepCells p.l)∧Below W2.heap.size W2 wc)
 case first =>
  refine region_inv 10 (by kernel_rfl) (by kernel_rfl) (by kernel_rfl) (by kernel_rfl) (FaI p nm la K W2 W.heap.size (W.heap.size+1)) (.mk (Fa.zero ((Below.refl _ _).drew))) ?_ ?_
  ·change StepsOk _ _ _ _ _ [0,1,2,3,4,5,6,7,8,9]
   refine StepsOk.cons rfl (fun L a V hL hd hI Kq hK=>?_) ?_
   ·cases hI with
    | mk h =>
     have l0:V.cell? ⟨W.heap.size,0,none⟩=some (.string nm):=(h.m.cell (p:=⟨W.heap.size,0,none⟩) zN).trans n0
     go_simp
     exact hK _ _ (.mk (h.s0))
   refine StepsOk.cons rfl (fun L a V hL hd hI Kq hK=>?_) ?_
   ·cases hI with
    | mk h =>
     go_simp
     exact hK _ _ (.mk (h.s1))
   refine StepsOk.cons rfl (fun L a V hL hd hI Kq hK=>?_) ?_
   ·cases hI with
    | mk h =>
     obtain rfl:=h.o1 (hd 1 (by kernel_rfl))
     go_simp
     exact hK _ _ (.mk (h.s2))
   refine StepsOk.cons rfl (fun L a V hL hd hI Kq hK=>?_) ?_
   ·cases hI with
    | mk h =>
     obtain rfl:=h.o2 (hd 2 (by kernel_rfl))
     go_simp
     exact hK _ _ (.mk (h.s3))
   refine StepsOk.cons rfl (fun L a V hL hd hI Kq hK=>?_) ?_
   ·cases hI with
    | mk h =>
     obtain rfl:=h.o3 (hd 3 (by kernel_rfl))
     go_simp
     exact hK _ _ (.mk (h.s4))
   refine StepsOk.cons rfl (fun L a V hL hd hI Kq hK=>?_) ?_
   ·cases hI with
    | mk h =>
     obtain rfl:=h.o4 (hd 4 (by kernel_rfl))
     have l0:V.cell? ⟨K,0,none⟩=some (.int .i64 (la+1)):=(h.m.cell (p:=⟨K,0,none⟩) zK).trans k0
     go_simp
     exact hK _ _ (.mk (h.s5))
   refine StepsOk.cons rfl (fun L a V hL hd hI Kq hK=>?_) ?_
   ·cases hI with
    | mk h =>
     have l0:V.cell? ⟨W.heap.size+1,0,none⟩=some (.int .i64 p.q):=(h.m.cell (p:=⟨W.heap.size+1,0,none⟩) zP).trans p0
     have l1:V.cell? ⟨W.heap.size+1,1,none⟩=some (.int .i64 p.s):=(h.m.cell (p:=⟨W.heap.size+1,1,none⟩) zP).trans p1
     have l2:V.cell? ⟨W.heap.size+1,2,none⟩=some (.slice p.a p.l.length p.cap):=(h.m.cell (p:=⟨W.heap.size+1,2,none⟩) zP).trans p2'
     have l3:V.cell? ⟨W.heap.size+1,3,none⟩=some (.int .i64 p.fr):=(h.m.cell (p:=⟨W.heap.size+1,3,none⟩) zP).trans p3
     have l4:V.cell? ⟨W.heap.size+1,4,none⟩=some (.int .i64 p.b):=(h.m.cell (p:=⟨W.heap.size+1,4,none⟩) zP).trans p4
     go_simp
     exact hK _ _ (.mk (h.s6))
   refine StepsOk.cons rfl (fun L a V hL hd hI Kq hK=>?_) ?_
   ·cases hI with
    | mk h =>
     obtain rfl:=h.o6 (hd 6 (by kernel_rfl))
     go_simp
     refine (HC.out _ h.m).mono ?_
     rintro e V1 ⟨ya,yc,rfl,ho,hb⟩
     exact hK _ _ (.mk ((h.grow hb).s7 hL (owns_lowerO ho h.m.size)))
   refine StepsOk.cons rfl (fun L a V hL hd hI Kq hK=>?_) ?_
   ·cases hI with
    | mk h =>
     obtain rfl:=h.o0 (hd 0 (by kernel_rfl))
     obtain rfl:=h.o5 (hd 5 (by kernel_rfl))
     have g7:L 7:=(hd 7 (by kernel_rfl))
     obtain ⟨ya,yc,e,_⟩:=h.o7 g7
     subst e
     go_simp
     exact hK _ _ (.mk (h.s8 g7 rfl))
   refine StepsOk.cons rfl (fun L a V hL hd hI Kq hK=>?_) ?_
   ·cases hI with
    | mk h =>
     go_simp
     exact hK _ _ (.mk (h.s9))
   exact StepsOk.nil
  ·intro fuel a V hI
   cases hI with
   | mk h =>
    obtain ⟨ya,yc,e,hrow⟩:=h.o7 (by decide)
    obtain ⟨ya',yc',e',e26⟩:=h.o8 (by decide)
    subst e
    cases e'
    subst e26
    obtain ⟨e,hF0,cs,hT,hc⟩:=h.o9 (by decide)
    subst e
    have m:=h.m
    clear h
    refine wpAny_ready (rs:=[10]) (by kernel_rfl) (by simp) ?_
    refine AllReady.cons rfl (fun Kq hK=>?_) AllReady.nil
    rw [if_pos (by rfl)]
    refine wp_store_row 63 _ _ rfl _ (fileH p nm la ya yc).cl.toArray rfl rfl 63 _ hT (by kernel_rfl) hc (by kernel_rfl) ?_
    refine hK _ _ ?_
    clear hK Kq
    refine wpAny_done (by kernel_rfl) ?_ _
    go_wp2
    go_meet
    case rel=>exact ⟨_,ya,yc,rfl,hF0,setRow_heap V _ cs _ _ _ hT,owns_setRowF hrow hT _,below_setRow m hF0 _⟩
 case rest =>
  obtain ⟨F,ya,yc,hs7,hF0,hF,hya,hb3⟩:=hcut
  subst hs7
  clear HC n0 p0 p1 p2' p3 p4 k0
  have h3:=h2.keep hb3
  have p3:=p2.below hb3 p2.lt
  have N3:=N2.keep hb3
  have P3:=P2.keep hb3
  have zc:=hb3.size
  have hFl:=lt_of_block hF
  have HO:Hid (BkOwn W base (.slice va us.length vc) us):=h.own
  clear h2 p2 N2 P2 h
  obtain ⟨a',g',cap',hve,hds⟩:=h3.own.at_
  obtain ⟨rfl,rfl⟩:va=a'∧vc=cap':=by injection hve with e1 _ e3; exact ⟨e1,e3⟩
  have hml:(us.map Hd.at0).length=us.length:=by simp
  obtain ⟨k0,k1⟩:wc.cell? ⟨K,0,none⟩=some (.int .i64 (la+1))∧wc.cell? ⟨K,1,none⟩=some (.slice va us.length vc):=⟨h3.bk.c 0,h3.bk.c 1⟩
  have n0:wc.cell? ⟨W.heap.size,0,none⟩=some (.string nm):=N3.c 0
  have hIX:=indexBehind_any va g' 0 vc (us.map Hd.at0) nm W.heap.size wc (by rw [hml]; omega) hds (by omega) n0
  rw [hml] at hIX
  have HIX:Hid _:=hIX
  have hmf:∀ (fn:Fn) (first cap:Array Value) (w:World),(Instr.makeFunc fn first cap).run Tryz.prog w=.ok (.func fn first cap) w:=fun _ _ _ _=>rfl
  clear hve hds hIX hml
  go_wp2_with fail
  refine (show Calls Tryz.prog _ _ wc _ from HIX.out).mono ?_
  rintro e w5 ⟨pl,rfl,hbeh,hb5⟩
  clear HIX k0 k1 n0
  have h5:=h3.keep hb5
  have p5:=p3.below hb5 p3.lt
  have N5:=N3.keep hb5
  have P5:=P3.keep hb5
  have hF5:=(hb5.block F hFl).trans hF
  have hya5:=owns_below hya hb5
  have z5:=hb5.size
  obtain ⟨i,hi,hpl5,hput⟩:∃ i:Nat,i≤us.length∧((pl = -1∧i=us.length)∨pl=(i:Int))∧putK (us.map Hd.key) (nm,la+1,p.key,0,(0,0,0,0,[]))=(us.map Hd.key).take i ++ (nm,la+1,p.key,0,(0,0,0,0,[])) :: (us.map Hd.key).drop i:=by
   have hn2:∀ t∈us,ltN t.nm nm = !ltN nm t.nm:=fun t ht=>ltN_two (HNO.out t ht)
   have hat:∀ (j:Nat) (x:HKey),(us.map Hd.key)[j]? = some x→∃ t,us[j]? = some t∧x.1=t.nm:=fun j x hx=>by
    rw [List.getElem?_map] at hx
    cases ht:us[j]? with
    | none=>rw [ht] at hx; cases hx
    | some t=>rw [ht] at hx; simp at hx; subst hx; exact ⟨t,rfl,rfl⟩
   rcases hbeh with ⟨rfl,hall⟩ | ⟨k,rfl,hkl,hlo,hhi⟩
   ·refine ⟨us.length,Nat.le_refl _,.inl ⟨rfl,rfl⟩,putK_at (by simp) (fun j x _ hx=>?_) (fun x hx=>?_)⟩
    ·obtain ⟨t,ht,e⟩:=hat j x hx
     have:=hall t.at0 (List.mem_map.2 ⟨t,List.mem_of_getElem? ht,rfl⟩)
     rw [e,hn2 t (List.mem_of_getElem? ht),show ltN nm t.nm=false from this]
     rfl
    ·rw [List.getElem?_eq_none (by simp)] at hx; cases hx
   ·have hkl':k < us.length:=by simpa using hkl
    refine ⟨k,by omega,.inr rfl,putK_at (by simp; omega) (fun j x hj hx=>?_) (fun x hx=>?_)⟩
    ·obtain ⟨t,ht,e⟩:=hat j x hx
     have:=hlo j t.at0 hj (by rw [List.getElem?_map,ht]; rfl)
     rw [e,hn2 t (List.mem_of_getElem? ht),show ltN nm t.nm=false from this]
     rfl
    ·obtain ⟨t,ht,e⟩:=hat k x hx
     have:=hhi t.at0 (by rw [List.getElem?_map,ht]; rfl)
     rw [e,hn2 t (List.mem_of_getElem? ht),show ltN nm t.nm=true from this]
     rfl
  clear hbeh h3 p3 N3 P3 hb5 hF hya hFl
  have zF:F < w5.heap.size:=lt_of_block hF5
  obtain ⟨k0,k1⟩:w5.cell? ⟨K,0,none⟩=some (.int .i64 (la+1))∧w5.cell? ⟨K,1,none⟩=some (.slice va us.length vc):=⟨h5.bk.c 0,h5.bk.c 1⟩
  go_upto_if 35 with (fail)
  go_cut [8] (fun s8 wd=>s8=.int .i64 (i:Int)∧wd=w5)
  case first =>
   rcases hpl5 with ⟨rfl,rfl⟩ | rfl
   ·go_wp2
    go_meet
    case rel=>exact ⟨rfl,rfl⟩
   ·have hi0:¬ (i:Int) < 0:=by omega
    go_wp2
    go_meet
    case rel=>exact ⟨rfl,rfl⟩
  case rest =>
   obtain ⟨hs8,hwd⟩:=hcut
   subst hs8
   subst hwd
   clear hpl5
   have XK:=h5.bk
   have hown:=h5.own
   have hbs:base≤wc.heap.size:=by omega
   have hKr:(Value.slice va us.length vc).ownBlock≠some K:=fun e=>by have:=(h5.own.row.lt K e).1; omega
   have zK:K < wc.heap.size:=XK.lt
   have hH0:HdOwn wc W2.heap.size (fileH p nm la ya yc):=⟨hya5,World.ownsRow_nil _ _ _ _,fun k _=>by simp [Value.ownBlock]⟩
   have hAp:=apart_new HO.out hH0 (by omega)
   have hHu:=hH0.lower (show base≤W2.heap.size by omega)
   have hF:=hF5
   have hrw:∀ k,(Value.slice va us.length vc).ownBlock=some k→k < W.heap.size:=fun k e=>(HO.out.row.lt k e).2
   clear hH0 HO hya5
   have HDN:Hid (∀ (X:World) (v':Value),wc.grownBy X (Value.slice va us.length vc).ownBlock→X.ownsRow base 63 13 v' (us.length+1) (hdCells (us.take i ++ fileH p nm la ya yc :: us.drop i))→HrW w (X.setCell ⟨K,1,none⟩ v') K base (la+1) v' (us.take i ++ fileH p nm la ya yc :: us.drop i)∧PtAt (X.setCell ⟨K,1,none⟩ v') p∧Cbx (X.setCell ⟨K,1,none⟩ v') W.heap.size #[.string nm]∧Cbx (X.setCell ⟨K,1,none⟩ v') (W.heap.size+1) #[.int .i64 p.q,.int .i64 p.s,.slice p.a p.l.length p.cap,.int .i64 p.fr,.int .i64 p.b]):=fun X v' hg ho=>by
    have hrow:∀ k,(Value.slice va us.length vc).ownBlock=some k→base≤k:=fun k e=>(h5.own.row.lt k e).1
    have sX:Spared (Value.slice va us.length vc).ownBlock.toList wc X:=Spared.grown hg (by simp)
    have O1:=h5.own.insert ho hi hg hHu hAp
    have gS:=grown_set X ⟨K,1,none⟩ v'
    have sS:Spared [K] X (X.setCell ⟨K,1,none⟩ v'):=Spared.grown gS (fun k e=>by cases e; simp)
    have K1:=XK.spared sX (fun e=>hKr (by simpa using e))
    refine ⟨⟨?_,h5.k,h5.kb,?_,?_⟩,?_,?_,?_⟩
    ·exact ((h5.old.grown hg h5.old.size (fun k e=>by have:=hrow k e; omega)).setCell (show w.heap.size≤K from h5.k) v')
    ·obtain ⟨T,hT⟩:=K1.it
     exact ⟨T,by rw [heap_setCell_same X K 1 _ _ v' hT]; rfl⟩
    ·exact O1.spared sS (fun k hk e=>by have:=(O1.lt k hk).1; simp at e; omega)
    ·refine PtAt.grownS ?_ gS (fun hl=>by have:=hpK hl; show K≠p.b0; omega)
     refine ptAt_grown p5 hg (fun hl e=>?_)
     have:=hrow _ e
     have:=hpK hl
     omega
    ·exact (N5.spared sX (fun e=>by have:=hrw _ (by simpa using e); omega)).spared sS (by simp; omega)
    ·exact (P5.spared sX (fun e=>by have:=hrw _ (by simpa using e); omega)).spared sS (by simp; omega)
   have HKEY:Hid ((us.take i ++ fileH p nm la ya yc :: us.drop i).map Hd.key=putK (us.map Hd.key) (nm,la+1,p.key,0,(0,0,0,0,[]))):=by
    show _=_
    rw [hput,List.map_append,List.map_cons,List.map_take,List.map_drop]
    rfl
   clear hput
   go_wp2
   go_cut [] (fun we=>∃ (X:World) (v':Value),we=X.setCell ⟨K,1,none⟩ v'∧wc.grownBy X (Value.slice va us.length vc).ownBlock∧X.ownsRow base 63 13 v' (us.length+1) (hdCells (us.take i ++ fileH p nm la ya yc :: us.drop i)))
   case first =>
    refine region_invK 10 4 (by kernel_rfl) (by kernel_rfl) (by kernel_rfl) (by kernel_rfl) (FbI (.slice va us.length vc) (fileH p nm la ya yc) i K base us wc W.heap.size (W.heap.size+1) F nm p) (.mk (Fb.zero ((Below.refl _ _).drew))) ?_ ?_
    ·change StepsOk _ _ _ _ _ [0,1,2,3,4,5,6,7,8,9]
     refine StepsOk.cons rfl (fun L a V hL hd hI Kq hK=>?_) ?_
     ·cases hI with
      | mk h =>
       go_simp
       exact hK _ _ (.mk (h.s0))
     refine StepsOk.cons rfl (fun L a V hL hd hI Kq hK=>?_) ?_
     ·cases hI with
      | mk h =>
       go_simp
       exact hK _ _ (.mk (h.s1))
     refine StepsOk.cons rfl (fun L a V hL hd hI Kq hK=>?_) ?_
     ·cases hI with
      | mk h =>
       obtain rfl:=h.o1 (hd 1 (by kernel_rfl))
       go_simp
       exact hK _ _ (.mk (h.s2))
     refine StepsOk.cons rfl (fun L a V hL hd hI Kq hK=>?_) ?_
     ·cases hI with
      | mk h =>
       obtain rfl:=h.o2 (hd 2 (by kernel_rfl))
       go_simp
       exact hK _ _ (.mk (h.s3))
     refine StepsOk.cons rfl (fun L a V hL hd hI Kq hK=>?_) ?_
     ·cases hI with
      | mk h =>
       obtain rfl:=h.o3 (hd 3 (by kernel_rfl))
       go_simp
       exact hK _ _ (.mk (h.s4))
     refine StepsOk.cons rfl (fun L a V hL hd hI Kq hK=>?_) ?_
     ·cases hI with
      | mk h =>
       obtain rfl:=h.o4 (hd 4 (by kernel_rfl))
       have hm:=h.m (fun z=>hL (h.d95 z))
       have l0:V.cell? ⟨K,1,none⟩=some (.slice va us.length vc):=(hm.cell (p:=⟨K,1,none⟩) zK).trans k1
       go_simp
       exact hK _ _ (.mk (h.s5))
     refine StepsOk.cons rfl (fun L a V hL hd hI Kq hK=>?_) ?_
     ·cases hI with
      | mk h =>
       go_simp
       exact hK _ _ (.mk (h.s6))
     refine StepsOk.cons rfl (fun L a V hL hd hI Kq hK=>?_) ?_
     ·cases hI with
      | mk h =>
       have hm:=h.m (fun z=>hL (h.d87 (h.d98 z)))
       have hFV:=(hm.block F zF).trans hF
       obtain ⟨f0,f1,f2,f3,f4,f5,f6,f7,f8,f9,f10,f11,f12⟩:=blk13 hFV
       go_simp
       exact hK _ _ (.mk (h.s7))
     refine StepsOk.cons rfl (fun L a V hL hd hI Kq hK=>?_) ?_
     ·cases hI with
      | mk h =>
       have g7:L 7:=(hd 7 (by kernel_rfl))
       obtain rfl:=h.o7 g7
       go_simp
       exact hK _ _ (.mk (h.s8 hL g7))
     refine StepsOk.cons rfl (fun L a V hL hd hI Kq hK=>?_) ?_
     ·cases hI with
      | mk h =>
       have g5:L 5:=(hd 5 (by kernel_rfl))
       have g8:L 8:=(hd 8 (by kernel_rfl))
       obtain rfl:=h.o5 g5
       obtain rfl:=h.o6 (hd 6 (by kernel_rfl))
       have hm:=h.m hL
       obtain ⟨e,hB0,hBV⟩:=h.o8 g8 hL
       subst e
       go_simp
       refine (insert_any (.slice va us.length vc) base i _ us (fileH p nm la ya yc) V (by omega) hi (Nat.le_trans hbs hm.size) (owns_below hown.row hm) (fun e=>by have:=(hown.row.lt _ e).2; omega) hBV).mono ?_
       rintro e V1 ⟨v1,rfl,ho1,hg1⟩
       exact hK _ _ (.mk (h.s9 g5 g8 ⟨grown_after hm hg1,ho1⟩))
     exact StepsOk.nil
    ·intro fuel a V hI
     cases hI with
     | mk h =>
      obtain rfl:=h.o0 (by decide)
      obtain ⟨hg9,ho9⟩:=h.o9 (by decide)
      clear h
      have hKV:Cbx V K #[.int .i64 (la+1),.slice va us.length vc]:=XK.spared (S:=(Value.slice va us.length vc).ownBlock.toList) (Spared.grown hg9 (by simp)) (fun e=>hKr (by simpa using e))
      obtain ⟨q0,q1⟩:V.cell? ⟨K,0,none⟩=some (.int .i64 (la+1))∧V.cell? ⟨K,1,none⟩=some (.slice va us.length vc):=⟨hKV.c 0,hKV.c 1⟩
      have qf:=hKV.f
      refine wpAny_ready (rs:=[10]) (by kernel_rfl) (by simp) ?_
      refine AllReady.cons rfl (fun Kq hK=>?_) AllReady.nil
      go_simp
      refine hK _ _ ?_
      clear hK Kq
      refine wpAny_ready (rs:=[11]) (by kernel_rfl) (by simp) ?_
      refine AllReady.cons rfl (fun Kq hK=>?_) AllReady.nil
      go_simp
      refine hK _ _ ?_
      clear hK Kq
      refine wpAny_ready (rs:=[12]) (by kernel_rfl) (by simp) ?_
      refine AllReady.cons rfl (fun Kq hK=>?_) AllReady.nil
      go_simp
      refine hK _ _ ?_
      clear hK Kq
      obtain ⟨v1a,v1n,v1c,rfl⟩:=owns_slice3 ho9
      refine wpAny_ready (rs:=[13]) (by kernel_rfl) (by simp) ?_
      refine AllReady.cons rfl (fun Kq hK=>?_) AllReady.nil
      go_simp
      refine hK _ _ ?_
      clear hK Kq
      refine wpAny_done (by kernel_rfl) ?_ _
      go_wp2
      go_meet
      case rel=>exact ⟨V,_,rfl,hg9,ho9⟩
   case rest =>
    obtain ⟨X,v',hwe,hgX,hoX⟩:=hcut
    obtain ⟨H6,q6,N6,P6⟩:=HDN.out X v' hgX hoX
    rw [← hwe] at H6 q6 N6 P6
    clear hwe hgX hoX HDN k0 k1 hF hHu hAp
    obtain ⟨k0,n0⟩:wc.cell? ⟨K,0,none⟩=some (.int .i64 (la+1))∧wc.cell? ⟨W.heap.size,0,none⟩=some (.string nm):=⟨H6.bk.c 0,N6.c 0⟩
    obtain ⟨r0,r1,r2,r3,r4⟩:wc.cell? ⟨W.heap.size+1,0,none⟩=some (.int .i64 p.q)∧wc.cell? ⟨W.heap.size+1,1,none⟩=some (.int .i64 p.s)∧wc.cell? ⟨W.heap.size+1,2,none⟩=some (.slice p.a p.l.length p.cap)∧wc.cell? ⟨W.heap.size+1,3,none⟩=some (.int .i64 p.fr)∧wc.cell? ⟨W.heap.size+1,4,none⟩=some (.int .i64 p.b):=⟨P6.c 0,P6.c 1,P6.c 2,P6.c 3,P6.c 4⟩
    have qn:=Cls.any wc
    have c0:∀ u:Cls wc,u.it.cell? ⟨K,0,none⟩=some (.int .i64 (la+1)):=fun u=>(u.cell H6.bk.lt 0).trans k0
    have c1:∀ u:Cls wc,u.it.cell? ⟨W.heap.size,0,none⟩=some (.string nm):=fun u=>(u.cell N6.lt 0).trans n0
    have d0:∀ u:Cls wc,u.it.cell? ⟨W.heap.size+1,0,none⟩=some (.int .i64 p.q):=fun u=>(u.cell P6.lt 0).trans r0
    have d1:∀ u:Cls wc,u.it.cell? ⟨W.heap.size+1,1,none⟩=some (.int .i64 p.s):=fun u=>(u.cell P6.lt 1).trans r1
    have d2:∀ u:Cls wc,u.it.cell? ⟨W.heap.size+1,2,none⟩=some (.slice p.a p.l.length p.cap):=fun u=>(u.cell P6.lt 2).trans r2
    have d3:∀ u:Cls wc,u.it.cell? ⟨W.heap.size+1,3,none⟩=some (.int .i64 p.fr):=fun u=>(u.cell P6.lt 3).trans r3
    have d4:∀ u:Cls wc,u.it.cell? ⟨W.heap.size+1,4,none⟩=some (.int .i64 p.b):=fun u=>(u.cell P6.lt 4).trans r4
    go_wp2
    refine wp_region_cls (by kernel_rfl) (by kernel_rfl) ?_
    repeat (go_big_quiet_step (fail))
    refine wpQuiet_nil ?_
    rintro w7 ⟨u,rfl⟩
    have hb7:=u.same
    generalize u.it=w7 at *
    clear c0 c1 d0 d1 d2 d3 d4 qn k0 n0 r0 r1 r2 r3 r4
    go_wp2
    go_ret
    exact ⟨v',_,rfl,HKEY.out,H6.keep hb7,q6.below hb7 q6.lt⟩
end Go.Proofs.YtgjleeamhkolhaaGreatDoor
