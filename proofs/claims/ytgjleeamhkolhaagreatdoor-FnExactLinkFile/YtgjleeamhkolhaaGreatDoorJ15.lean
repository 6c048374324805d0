/- Joined texts: LkFileT, LkFileE. -/
import Derived.Deep.RegionHeld3
import Derived.Test.YtgjleeamhkolhaaGreatDoorJ14
import Derived.Test.YtgjleeamhkolhaaGreatDoorLkFileI
import Derived.Test.YtgjleeamhkolhaaGreatDoorLkPutS
import Derived.Test.YtgjleeamhkolhaaGreatDoorLkHeldS
import Derived.Test.YtgjleeamhkolhaaGreatDoorLkFileLaw
import Derived.Test.YtgjleeamhkolhaaGreatDoorJ12
namespace Go.Proofs.YtgjleeamhkolhaaGreatDoor
open Go.RowKit
theorem hdCells_at0 (us:List Hd):hdCells (us.map Hd.at0)=hdCells us:=by
 induction us with
 | nil=>rfl
 | cons t l ih=>rw [List.map_cons,hdCells_cons,hdCells_cons,ih,at0_cl]
theorem putS_own (la:Int) (va:Option Addr) (vc base:Nat) (us:List Hd) (h0:Hd) (w:World) (hul:us.length≤900) (ho:BkOwn w base (.slice va us.length vc) us) :
  Calls Tryz.prog 29 #[.agg #[.int .i64 la,.slice va us.length vc],h0.val] w fun e w'=>∃ (xa:Option Addr) (xc i:Nat),e=.returned (.agg #[.int .i64 la,.slice xa (us.length+1) xc])∧i≤us.length∧putK (us.map Hd.key) h0.key=(us.map Hd.key).take i ++ h0.key :: (us.map Hd.key).drop i∧w'.ownsRow w.heap.size 63 13 (.slice xa (us.length+1) xc) (us.length+1) (hdCells (us.take i ++ h0 :: us.drop i))∧Below w.heap.size w w':=by
 obtain ⟨a',g',cap',hve,hds⟩:=ho.at_
 obtain ⟨rfl,rfl⟩:va=a'∧vc=cap':=by injection hve with e1 _ e3; exact ⟨e1,e3⟩
 have hml:(us.map Hd.at0).length=us.length:=by simp
 have hvc:us.length≤vc:=by
  rcases ho.row.2 with ⟨e,e0⟩ | ⟨g,cap,cur,e,hk,_⟩
  ·omega
  ·injection e with _ _ e3; subst e3; first | exact hk | omega
 have h:=putS_any la va g' 0 vc (us.map Hd.at0) h0 w (by rw [hml]; exact hul) hds (by rw [hml]; exact hvc)
 rw [hml] at h
 refine h.mono ?_
 rintro e w' ⟨v',i,rfl,hi,h1,h2,ho',hb⟩
 have ec:hdCells ((us.map Hd.at0).take i ++ h0 :: (us.map Hd.at0).drop i)=hdCells (us.take i ++ h0 :: us.drop i):=by
  rw [hdCells_append,hdCells_append,hdCells_cons,hdCells_cons,← List.map_take,← List.map_drop,hdCells_at0,hdCells_at0]
 rw [ec] at ho'
 obtain ⟨xa,xc,rfl⟩:=own_slice ho'
 have hat:∀ (j:Nat) (x:HKey),(us.map Hd.key)[j]? = some x→∃ t,us[j]? = some t∧x.1=t.nm:=fun j x hx=>by
  rw [List.getElem?_map] at hx
  cases ht:us[j]? with
  | none=>rw [ht] at hx; cases hx
  | some t=>rw [ht] at hx; simp at hx; subst hx; exact ⟨t,rfl,rfl⟩
 refine ⟨xa,xc,i,rfl,hi,putK_at (by simpa using hi) (fun j x hj hx=>?_) (fun x hx=>?_),ho',hb⟩
 ·obtain ⟨t,ht,e⟩:=hat j x hx
  rw [e]
  exact h1 j t.at0 hj (by rw [List.getElem?_map,ht]; rfl)
 ·obtain ⟨t,ht,e⟩:=hat i x hx
  rw [e]
  exact h2 t.at0 (by rw [List.getElem?_map,ht]; rfl)
theorem copyBS_own (la:Int) (v:Value) (base:Nat) (us:List Hd) (w:World) (hl:us.length≤1048576) (hsm:∀ t∈us,t.p.l.length≤1048576∧t.x.l.length≤1048576) (ho:BkOwn w base v us) :
  Calls Tryz.prog 24 #[.agg #[.int .i64 la,v]] w
   fun e w'=>∃ (a:Option Addr) (c:Nat) (vs:List Hd),e=.returned (.agg #[.int .i64 la,.slice a vs.length c])∧vs.map Hd.key=us.map Hd.key∧BkOwn w' w.heap.size (.slice a vs.length c) vs∧Below w.heap.size w w':=by
 obtain ⟨a',g',cap',rfl,hds⟩:=ho.at_
 have hml:(us.map Hd.at0).length=us.length:=by simp
 have h:=copyBS_any la a' g' 0 cap' (us.map Hd.at0) w (by rw [hml]; exact hl) (fun t ht=>by obtain ⟨u,hu,rfl⟩:=List.mem_map.1 ht; exact hsm u hu) hds
 rw [hml,at0_keys] at h
 refine h.mono ?_
 rintro e w' ⟨v,vs,rfl,hk,ho',hb⟩
 obtain ⟨a,c,rfl⟩:=own_slice ho'.row
 exact ⟨a,c,vs,rfl,hk,ho',hb⟩
structure FsW (w W:World) (K:Nat) (la:Int) (v:Value) (us:List Hd):Prop where
 old:Below w.heap.size w W
 k:w.heap.size≤K
 ne:∀ k∈bkBlks v us,k≠K
 bk:Cbx W K #[.int .i64 la,v]
 own:BkOwn W w.heap.size v us
theorem FsW.keep {w W W':World} {K:Nat} {la:Int} {v:Value} {us:List Hd} (h:FsW w W K la v us) (hb:Below W.heap.size W W'):FsW w W' K la v us:=
 ⟨h.old.trans (hb.mono h.old.size),h.k,h.ne,h.bk.keep hb,h.own.below hb⟩
theorem FsW.last {w W:World} {K:Nat} {la:Int} {v:Value} {us:List Hd} (h:FsW w W K la v us) (x:Int):FsW w (W.setCell ⟨K,0,none⟩ (.int .i64 x)) K x v us:=by
 refine ⟨Below.setCell h.old h.k _,h.k,h.ne,?_,?_⟩
 ·obtain ⟨T,hh⟩:=h.bk.it
  exact ⟨T,by simp [World.setCell,Array.getElem?_modify,hh]⟩
 ·exact h.own.spared (S:=[K]) (Spared.grown (grown_set _ _ _) (fun k e=>by cases e; simp)) (fun k hk e=>h.ne k hk (by simpa using e))
theorem FsW.book {w W:World} {K:Nat} {la:Int} {v v':Value} {us us':List Hd} (h:FsW w W K la v us) (ho:BkOwn W w.heap.size v' us') (hne:∀ k∈bkBlks v' us',k≠K):FsW w ((W.setCell ⟨K,0,none⟩ (.int .i64 la)).setCell ⟨K,1,none⟩ v') K la v' us':=by
 refine ⟨Below.setCell (Below.setCell h.old h.k _) h.k _,h.k,hne,?_,?_⟩
 ·obtain ⟨T,hh⟩:=h.bk.it
  exact ⟨T,by simp [World.setCell,Array.getElem?_modify,hh]⟩
 ·refine BkOwn.spared (S:=[K]) ?_ (Spared.grown (grown_set _ _ _) (fun k e=>by cases e; simp)) (fun k hk e=>hne k hk (by simpa using e))
  exact ho.spared (S:=[K]) (Spared.grown (grown_set _ _ _) (fun k e=>by cases e; simp)) (fun k hk e=>hne k hk (by simpa using e))
theorem grownB {w w':World} (h:Below w.heap.size w w') (row:Option Nat):w.grownBy w' row:=⟨h.os,h.tape,h.output,h.size,fun k hk _=>h.block k hk⟩
theorem bkBlks_insert {v:Value} {us:List Hd} {u:Hd} {i k:Nat} (h:k∈bkBlks v (us.take i ++ u :: us.drop i)):v.ownBlock=some k∨k∈u.blks∨∃ t∈us,k∈t.blks:=by
 simp only [bkBlks,List.mem_append,Option.mem_toList,List.mem_flatMap,List.mem_cons] at h
 rcases h with h | ⟨t,ht | rfl | ht,hk⟩
 ·exact .inl h
 ·exact .inr (.inr ⟨t,List.mem_of_mem_take ht,hk⟩)
 ·exact .inr (.inl hk)
 ·exact .inr (.inr ⟨t,List.mem_of_mem_drop ht,hk⟩)
structure Ft (p:Pt) (nm:ByteArray) (la:Int) (K vc:Nat) (va:Option Addr) (us:List Hd) (w0:World) (L:Nat→Prop) (y60 y61 y62 y63 y64 y65 y66 y67:Value) (V:World):Prop where
 m:Below w0.heap.size w0 V
 o0:L 0→y60=.agg #[.int .i64 (la+1),.slice va us.length vc]
 o1:L 1→y61=.string nm
 o2:L 2→y62=.pointer (some ⟨K,0,none⟩)
 o3:L 3→y63=.int .i64 (la+1)
 o4:L 4→y64=p.val
 o5:L 5→∃ ya yc,y65=.agg #[.int .i64 p.q,.int .i64 p.s,.slice ya p.l.length yc,.int .i64 p.fr,.int .i64 p.b]∧V.ownsRow w0.heap.size 98 7 (.slice ya p.l.length yc) p.l.length (stepCells p.l)
 o6:L 6→∃ ya yc,y65=.agg #[.int .i64 p.q,.int .i64 p.s,.slice ya p.l.length yc,.int .i64 p.fr,.int .i64 p.b]∧y66=(fileH p nm la ya yc).val
 o7:L 7→∃ ya yc xa xc i,y65=.agg #[.int .i64 p.q,.int .i64 p.s,.slice ya p.l.length yc,.int .i64 p.fr,.int .i64 p.b]∧y67=.agg #[.int .i64 (la+1),.slice xa (us.length+1) xc]∧(i≤us.length∧putK (us.map Hd.key) (fileH p nm la ya yc).key=(us.map Hd.key).take i ++ (fileH p nm la ya yc).key :: (us.map Hd.key).drop i)∧V.ownsRow w0.heap.size 63 13 (.slice xa (us.length+1) xc) (us.length+1) (hdCells (us.take i ++ fileH p nm la ya yc :: us.drop i))
 d6:L 6→L 5
 d7:L 7→L 5
section
variable {p:Pt} {nm:ByteArray} {la:Int} {K vc:Nat} {va:Option Addr} {us:List Hd} {w0:World} {L:Nat→Prop} {y60 y61 y62 y63 y64 y65 y66 y67:Value} {V V':World}
theorem Ft.grow (h:Ft p nm la K vc va us w0 L y60 y61 y62 y63 y64 y65 y66 y67 V) (hb:Below V.heap.size V V'):Ft p nm la K vc va us w0 L y60 y61 y62 y63 y64 y65 y66 y67 V':=
 ⟨h.m.trans (hb.mono h.m.size),
  h.o0,
  h.o1,
  h.o2,
  h.o3,
  h.o4,
  fun h5=>by obtain ⟨ya,yc,e,q⟩:=h.o5 h5; exact ⟨ya,yc,e,owns_below q hb⟩,
  h.o6,
  fun h7=>by obtain ⟨ya,yc,xa,xc,i,e,e7,q,r⟩:=h.o7 h7; exact ⟨ya,yc,xa,xc,i,e,e7,q,owns_below r hb⟩,
  h.d6,
  h.d7⟩
theorem Ft.s0 (h:Ft p nm la K vc va us w0 L y60 y61 y62 y63 y64 y65 y66 y67 V)  : Ft p nm la K vc va us w0 (fun j=>j=0∨L j) (.agg #[.int .i64 (la+1),.slice va us.length vc]) y61 y62 y63 y64 y65 y66 y67 V:=by
 exact ⟨h.m,
  fun _=>rfl,
  fun h1=>h.o1 (ol h1),
  fun h2=>h.o2 (ol h2),
  fun h3=>h.o3 (ol h3),
  fun h4=>h.o4 (ol h4),
  fun h5=>h.o5 (ol h5),
  fun h6=>h.o6 (ol h6),
  fun h7=>h.o7 (ol h7),
  fun h6=>Or.inr (h.d6 (ol h6)),
  fun h7=>Or.inr (h.d7 (ol h7))⟩
theorem Ft.s1 (h:Ft p nm la K vc va us w0 L y60 y61 y62 y63 y64 y65 y66 y67 V)  : Ft p nm la K vc va us w0 (fun j=>j=1∨L j) y60 (.string nm) y62 y63 y64 y65 y66 y67 V:=by
 exact ⟨h.m,
  fun h0=>h.o0 (ol h0),
  fun _=>rfl,
  fun h2=>h.o2 (ol h2),
  fun h3=>h.o3 (ol h3),
  fun h4=>h.o4 (ol h4),
  fun h5=>h.o5 (ol h5),
  fun h6=>h.o6 (ol h6),
  fun h7=>h.o7 (ol h7),
  fun h6=>Or.inr (h.d6 (ol h6)),
  fun h7=>Or.inr (h.d7 (ol h7))⟩
theorem Ft.s2 (h:Ft p nm la K vc va us w0 L y60 y61 y62 y63 y64 y65 y66 y67 V)  : Ft p nm la K vc va us w0 (fun j=>j=2∨L j) y60 y61 (.pointer (some ⟨K,0,none⟩)) y63 y64 y65 y66 y67 V:=by
 exact ⟨h.m,
  fun h0=>h.o0 (ol h0),
  fun h1=>h.o1 (ol h1),
  fun _=>rfl,
  fun h3=>h.o3 (ol h3),
  fun h4=>h.o4 (ol h4),
  fun h5=>h.o5 (ol h5),
  fun h6=>h.o6 (ol h6),
  fun h7=>h.o7 (ol h7),
  fun h6=>Or.inr (h.d6 (ol h6)),
  fun h7=>Or.inr (h.d7 (ol h7))⟩
theorem Ft.s3 (h:Ft p nm la K vc va us w0 L y60 y61 y62 y63 y64 y65 y66 y67 V)  : Ft p nm la K vc va us w0 (fun j=>j=3∨L j) y60 y61 y62 (.int .i64 (la+1)) y64 y65 y66 y67 V:=by
 exact ⟨h.m,
  fun h0=>h.o0 (ol h0),
  fun h1=>h.o1 (ol h1),
  fun h2=>h.o2 (ol h2),
  fun _=>rfl,
  fun h4=>h.o4 (ol h4),
  fun h5=>h.o5 (ol h5),
  fun h6=>h.o6 (ol h6),
  fun h7=>h.o7 (ol h7),
  fun h6=>Or.inr (h.d6 (ol h6)),
  fun h7=>Or.inr (h.d7 (ol h7))⟩
theorem Ft.s4 (h:Ft p nm la K vc va us w0 L y60 y61 y62 y63 y64 y65 y66 y67 V)  : Ft p nm la K vc va us w0 (fun j=>j=4∨L j) y60 y61 y62 y63 p.val y65 y66 y67 V:=by
 exact ⟨h.m,
  fun h0=>h.o0 (ol h0),
  fun h1=>h.o1 (ol h1),
  fun h2=>h.o2 (ol h2),
  fun h3=>h.o3 (ol h3),
  fun _=>rfl,
  fun h5=>h.o5 (ol h5),
  fun h6=>h.o6 (ol h6),
  fun h7=>h.o7 (ol h7),
  fun h6=>Or.inr (h.d6 (ol h6)),
  fun h7=>Or.inr (h.d7 (ol h7))⟩
theorem Ft.s5 (h:Ft p nm la K vc va us w0 L y60 y61 y62 y63 y64 y65 y66 y67 V) (n5:¬ L 5) {ya:Option Addr} {yc:Nat} (q:V.ownsRow w0.heap.size 98 7 (.slice ya p.l.length yc) p.l.length (stepCells p.l)):Ft p nm la K vc va us w0 (fun j=>j=5∨L j) y60 y61 y62 y63 y64 (.agg #[.int .i64 p.q,.int .i64 p.s,.slice ya p.l.length yc,.int .i64 p.fr,.int .i64 p.b]) y66 y67 V:=by
 exact ⟨h.m,
  fun h0=>h.o0 (ol h0),
  fun h1=>h.o1 (ol h1),
  fun h2=>h.o2 (ol h2),
  fun h3=>h.o3 (ol h3),
  fun h4=>h.o4 (ol h4),
  fun _=>⟨ya,yc,rfl,q⟩,
  fun z=>absurd (ol z) (fun z=>n5 (h.d6 z)),
  fun z=>absurd (ol z) (fun z=>n5 (h.d7 z)),
  fun _=>Or.inl rfl,
  fun _=>Or.inl rfl⟩
theorem Ft.s6 (h:Ft p nm la K vc va us w0 L y60 y61 y62 y63 y64 y65 y66 y67 V) (g5:L 5) {ya:Option Addr} {yc:Nat} (e:y65=.agg #[.int .i64 p.q,.int .i64 p.s,.slice ya p.l.length yc,.int .i64 p.fr,.int .i64 p.b]):Ft p nm la K vc va us w0 (fun j=>j=6∨L j) y60 y61 y62 y63 y64 y65 (fileH p nm la ya yc).val y67 V:=by
 exact ⟨h.m,
  fun h0=>h.o0 (ol h0),
  fun h1=>h.o1 (ol h1),
  fun h2=>h.o2 (ol h2),
  fun h3=>h.o3 (ol h3),
  fun h4=>h.o4 (ol h4),
  fun h5=>h.o5 (ol h5),
  fun _=>⟨ya,yc,e,rfl⟩,
  fun h7=>h.o7 (ol h7),
  fun _=>Or.inr g5,
  fun h7=>Or.inr (h.d7 (ol h7))⟩
theorem Ft.s7 (h:Ft p nm la K vc va us w0 L y60 y61 y62 y63 y64 y65 y66 y67 V) (g5:L 5) {ya xa:Option Addr} {yc xc i:Nat} (e:y65=.agg #[.int .i64 p.q,.int .i64 p.s,.slice ya p.l.length yc,.int .i64 p.fr,.int .i64 p.b]) (q:i≤us.length∧putK (us.map Hd.key) (fileH p nm la ya yc).key=(us.map Hd.key).take i ++ (fileH p nm la ya yc).key :: (us.map Hd.key).drop i) (r:V.ownsRow w0.heap.size 63 13 (.slice xa (us.length+1) xc) (us.length+1) (hdCells (us.take i ++ fileH p nm la ya yc :: us.drop i))):Ft p nm la K vc va us w0 (fun j=>j=7∨L j) y60 y61 y62 y63 y64 y65 y66 (.agg #[.int .i64 (la+1),.slice xa (us.length+1) xc]) V:=by
 exact ⟨h.m,
  fun h0=>h.o0 (ol h0),
  fun h1=>h.o1 (ol h1),
  fun h2=>h.o2 (ol h2),
  fun h3=>h.o3 (ol h3),
  fun h4=>h.o4 (ol h4),
  fun h5=>h.o5 (ol h5),
  fun h6=>h.o6 (ol h6),
  fun _=>⟨ya,yc,xa,xc,i,e,rfl,q,r⟩,
  fun h6=>Or.inr (h.d6 (ol h6)),
  fun _=>Or.inr g5⟩
theorem Ft.zero (m:Below w0.heap.size w0 V):Ft p nm la K vc va us w0 (fun _=>False) y60 y61 y62 y63 y64 y65 y66 y67 V:=⟨m,fun h=>h.elim,fun h=>h.elim,fun h=>h.elim,fun h=>h.elim,fun h=>h.elim,fun h=>h.elim,fun h=>h.elim,fun h=>h.elim,fun h=>h.elim,fun h=>h.elim⟩
end
inductive FtI (p:Pt) (nm:ByteArray) (la:Int) (K vc:Nat) (va:Option Addr) (us:List Hd) (w0:World) (N:Nat):(Nat→Prop)→Act→World→Prop
 | mk {L:Nat→Prop} {x0 x2 x3 x4 x5 x7 x10 x12 x13 x14 x15 x16 x17 x18 x19 x20 x21 x22 x23 x24 x25 x26 x27 x28 x29 x30 x31 x32 x33 x34 x35 x36 x37 x38 x39 x40 x41 x42 x43 x44 x45 x46 x47 x48 x49 x50 x51 x52 x53 x54 x55 x56 x57 x58 x59 x68 x69 x70 x71 x72 x73 x74 x75 y60 y61 y62 y63 y64 y65 y66 y67:Value} {V:World} (h:Ft p nm la K vc va us w0 L y60 y61 y62 y63 y64 y65 y66 y67 V):FtI p nm la K vc va us w0 N L ⟨#[x0,.string nm,x2,x3,x4,x5,.pointer (some ⟨N+1,0,none⟩),x7,.pointer (some ⟨N+1+1,0,none⟩),.pointer (some ⟨N+1+1+1,0,none⟩),x10,.pointer (some ⟨K,0,none⟩),x12,x13,x14,x15,x16,x17,x18,x19,x20,x21,x22,x23,x24,x25,x26,x27,x28,x29,x30,x31,x32,x33,x34,x35,x36,x37,x38,x39,x40,x41,x42,x43,x44,x45,x46,x47,x48,x49,x50,x51,x52,x53,x54,x55,x56,x57,x58,x59,y60,y61,y62,y63,y64,y65,y66,y67,x68,x69,x70,x71,x72,x73,x74,x75],[]⟩ V
set_option maxHeartbeats 8000000 in
set_option maxRecDepth 20000 in
theorem fileS_yes (la now:Int) (nm:ByteArray) (p:Pt) (a:Option Addr) (b o ca:Nat) (ts:List Hd) (w:World) (hl:ts.length≤1048576) (hsm:∀ t∈ts,t.p.l.length≤1048576∧t.x.l.length≤1048576) (hpl:p.l.length≤1048576) (hpa:p.a=some ⟨p.b0,p.o,none⟩) (hs:HdsAt w a b o ts) (hp:PtAt w p) (hc:fileC la now nm p ts=0)
  (hla:0≤la∧la≤1000000) :
  Calls Tryz.prog 7 #[.agg #[.int .i64 la,.slice a ts.length ca],.string nm,p.val,.int .i64 now] w
   fun e w'=>∃ (va:Option Addr) (vn vc:Nat) (us:List Hd) (wa:Option Addr) (wc mid:Nat),e=.returned (.tuple #[.agg #[.int .i64 (la+1),.slice va vn vc],.agg #[.int .i64 1,.string nm,.int .i64 (la+1),.int .i64 p.q,.int .i64 p.s,.slice wa p.l.length wc,.int .i64 p.fr,.int .i64 p.b],.int .i64 0]) ∧
    us.map Hd.key=putK (ts.map Hd.key) (nm,la+1,p.key,0,(0,0,0,0,[]))∧BkOwn w' w.heap.size (.slice va vn vc) us∧(∀ k∈bkBlks (.slice va vn vc) us,k < mid)∧w'.ownsRow mid 98 7 (.slice wa p.l.length wc) p.l.length (stepCells p.l)∧Below w.heap.size w w':=by
 obtain ⟨W0,hW0⟩:∃ W0,((((w.alloc (.cells #[.int .i64 la,.slice a ts.length ca] 34)).alloc (.cells #[.int .i64 p.q,.int .i64 p.s,.slice p.a p.l.length p.cap,.int .i64 p.fr,.int .i64 p.b] 38)).alloc (.cells #[.int .i64 0,.slice none 0 0] 34)).alloc (.cells #[.int .i64 0,.string ⟨#[]⟩,.int .i64 0,.int .i64 0,.int .i64 0,.slice none 0 0,.int .i64 0,.int .i64 0] 40))=W0:=⟨_,rfl⟩
 have BW:Below w.heap.size w W0:=by rw [← hW0]; exact (bel3 _ _ _).alloc (by simp; omega) _
 have X1:Cbx W0 w.heap.size #[.int .i64 la,.slice a ts.length ca]:=by rw [← hW0]; exact (Cbx.new w #[.int .i64 la,.slice a ts.length ca] 34).keep (bel3 _ _ _)
 have X2:Cbx W0 (w.heap.size+1) #[.int .i64 p.q,.int .i64 p.s,.slice p.a p.l.length p.cap,.int .i64 p.fr,.int .i64 p.b]:=by
  rw [← hW0]
  have h:=Cbx.new (w.alloc (.cells #[.int .i64 la,.slice a ts.length ca] 34)) #[.int .i64 p.q,.int .i64 p.s,.slice p.a p.l.length p.cap,.int .i64 p.fr,.int .i64 p.b] 38
  rw [World.size_alloc] at h
  exact h.keep (bel2 _ _)
 have X3:Cbx W0 (w.heap.size+1+1) #[.int .i64 0,.slice none 0 0]:=by
  rw [← hW0]
  have h:=Cbx.new ((w.alloc (.cells #[.int .i64 la,.slice a ts.length ca] 34)).alloc (.cells #[.int .i64 p.q,.int .i64 p.s,.slice p.a p.l.length p.cap,.int .i64 p.fr,.int .i64 p.b] 38)) #[.int .i64 0,.slice none 0 0] 34
  rw [World.size_alloc,World.size_alloc] at h
  exact h.keep (bel1 _)
 have X4:Cbx W0 (w.heap.size+1+1+1) #[.int .i64 0,.string ⟨#[]⟩,.int .i64 0,.int .i64 0,.int .i64 0,.slice none 0 0,.int .i64 0,.int .i64 0]:=by
  rw [← hW0]
  have h:=Cbx.new (((w.alloc (.cells #[.int .i64 la,.slice a ts.length ca] 34)).alloc (.cells #[.int .i64 p.q,.int .i64 p.s,.slice p.a p.l.length p.cap,.int .i64 p.fr,.int .i64 p.b] 38)).alloc (.cells #[.int .i64 0,.slice none 0 0] 34)) #[.int .i64 0,.string ⟨#[]⟩,.int .i64 0,.int .i64 0,.int .i64 0,.slice none 0 0,.int .i64 0,.int .i64 0] 40
  rw [World.size_alloc,World.size_alloc,World.size_alloc] at h
  exact h
 have lw:IntKind.i64.wrap (la+1)=la+1:=by rw [IntKind.wrap_i64]; omega
 have HLA:Hid (0≤la∧la≤1000000):=hla
 obtain ⟨hv,hn,hy,hno,h4,h8',hfr⟩:=fileC_ok hc
 have HB:Hid (bookS la now ts=true):=by show _=_; rw [book_one,hv]
 have HPA:Hid (p.a=some ⟨p.b0,p.o,none⟩):=hpa
 have hnow:=book_now hv
 have h8:=(book_held hv).1
 have H9:¬ (8:Int)≤(ts.length:Int):=by omega
 have H4:¬ 1000000≤la:=by omega
 have HN:Hid (nameB nm=true):=hn
 have HY:Hid (waitB p now=true):=hy
 have HNO:Hid (ts.find? (hasN nm)=none):=hno
 have HFR:Hid (freeS nm p.key now ts=true):=hfr
 have H88:Hid (ts.length≤8):=by show _≤_; omega
 clear hc hv hpa hn hy hno h4 h8' hfr hla h8
 obtain ⟨f0,f1⟩:W0.cell? ⟨w.heap.size,0,none⟩=some (.int .i64 la)∧W0.cell? ⟨w.heap.size,1,none⟩=some (.slice a ts.length ca):=⟨X1.c 0,X1.c 1⟩
 obtain ⟨g0,g1,g2,g3,g4⟩:W0.cell? ⟨w.heap.size+1,0,none⟩=some (.int .i64 p.q)∧W0.cell? ⟨w.heap.size+1,1,none⟩=some (.int .i64 p.s)∧W0.cell? ⟨w.heap.size+1,2,none⟩=some (.slice p.a p.l.length p.cap)∧W0.cell? ⟨w.heap.size+1,3,none⟩=some (.int .i64 p.fr)∧W0.cell? ⟨w.heap.size+1,4,none⟩=some (.int .i64 p.b):=⟨X2.c 0,X2.c 1,X2.c 2,X2.c 3,X2.c 4⟩
 go_enter Tryz.func7,Tryz.ntmps7
 go_wp2_with fail
 have zW:W0.heap.size=w.heap.size+1+1+1+1:=by rw [← hW0]; simp
 clear hW0
 refine (bookS_any la now a b o ca ts true _ hl hsm (hs.below BW) HB.out).mono ?_
 rintro e w1 ⟨rfl,hb1⟩
 clear f0 f1 g0 g1 g2 g3 g4
 obtain ⟨f0,f1⟩:w1.cell? ⟨w.heap.size,0,none⟩=some (.int .i64 la)∧w1.cell? ⟨w.heap.size,1,none⟩=some (.slice a ts.length ca):=⟨(X1.keep hb1).c 0,(X1.keep hb1).c 1⟩
 obtain ⟨g0,g1,g2,g3,g4⟩:w1.cell? ⟨w.heap.size+1,0,none⟩=some (.int .i64 p.q)∧w1.cell? ⟨w.heap.size+1,1,none⟩=some (.int .i64 p.s)∧w1.cell? ⟨w.heap.size+1,2,none⟩=some (.slice p.a p.l.length p.cap)∧w1.cell? ⟨w.heap.size+1,3,none⟩=some (.int .i64 p.fr)∧w1.cell? ⟨w.heap.size+1,4,none⟩=some (.int .i64 p.b):=⟨(X2.keep hb1).c 0,(X2.keep hb1).c 1,(X2.keep hb1).c 2,(X2.keep hb1).c 3,(X2.keep hb1).c 4⟩
 have B1:=BW.trans (hb1.mono BW.size)
 go_wp2_with fail
 refine (copyBS_any la a b o ca ts _ hl hsm (hs.below B1)).mono ?_
 rintro e w2 ⟨v,us,rfl,hk,ho,hb2⟩
 have HK:Hid (us.map Hd.key=ts.map Hd.key):=hk
 obtain ⟨va,vc,rfl⟩:=own_slice ho.row
 clear f0 f1 g0 g1 g2 g3 g4 hk
 have D2:=hb1.trans (hb2.mono hb1.size)
 have SN:FsW W0 (w2.alloc (.cells #[.int .i64 la,.slice va us.length vc] 34)) w2.heap.size la (.slice va us.length vc) us:=
  ⟨D2.trans ((bel1 _).mono D2.size),D2.size,fun k hk=>by have:=(ho.lt k hk).2; omega,Cbx.new w2 #[.int .i64 la,.slice va us.length vc] 34,(ho.below (bel1 (.cells #[.int .i64 la,.slice va us.length vc] 34))).lower hb1.size⟩
 have D3:=SN.old
 clear ho hb2 D2
 obtain ⟨f0,f1⟩:(w2.alloc (.cells #[.int .i64 la,.slice va us.length vc] 34)).cell? ⟨w.heap.size,0,none⟩=some (.int .i64 la)∧(w2.alloc (.cells #[.int .i64 la,.slice va us.length vc] 34)).cell? ⟨w.heap.size,1,none⟩=some (.slice a ts.length ca):=⟨(X1.keep D3).c 0,(X1.keep D3).c 1⟩
 obtain ⟨g0,g1,g2,g3,g4⟩:(w2.alloc (.cells #[.int .i64 la,.slice va us.length vc] 34)).cell? ⟨w.heap.size+1,0,none⟩=some (.int .i64 p.q)∧(w2.alloc (.cells #[.int .i64 la,.slice va us.length vc] 34)).cell? ⟨w.heap.size+1,1,none⟩=some (.int .i64 p.s)∧(w2.alloc (.cells #[.int .i64 la,.slice va us.length vc] 34)).cell? ⟨w.heap.size+1,2,none⟩=some (.slice p.a p.l.length p.cap)∧(w2.alloc (.cells #[.int .i64 la,.slice va us.length vc] 34)).cell? ⟨w.heap.size+1,3,none⟩=some (.int .i64 p.fr)∧(w2.alloc (.cells #[.int .i64 la,.slice va us.length vc] 34)).cell? ⟨w.heap.size+1,4,none⟩=some (.int .i64 p.b):=⟨(X2.keep D3).c 0,(X2.keep D3).c 1,(X2.keep D3).c 2,(X2.keep D3).c 3,(X2.keep D3).c 4⟩
 have HSB:Hid (∀ X:World,Below W0.heap.size W0 X→HdsAt X a b o ts∧PtAt X p):=fun X hb=>⟨hs.below (BW.trans (hb.mono BW.size)),hp.below (BW.trans (hb.mono BW.size)) hp.lt⟩
 go_wp2_with fail
 generalize (w2.alloc (.cells #[.int .i64 la,.slice va us.length vc] 34))=W3 at *
 generalize w2.heap.size=CX at *
 refine (nameS_val nm true _ HN.out).mono ?_
 rintro e w4 ⟨rfl,rfl⟩
 go_wp2_with fail
 refine (waitsS_any p now true _ hpl (HSB.out _ D3).2 HPA.out hnow HY.out).mono ?_
 rintro e w5 ⟨rfl,hb5⟩
 have D5:=D3.trans (hb5.mono D3.size)
 have D5':=hb5
 clear f0 f1 g0 g1 g2 g3 g4 hb5
 obtain ⟨f0,f1⟩:w5.cell? ⟨w.heap.size,0,none⟩=some (.int .i64 la)∧w5.cell? ⟨w.heap.size,1,none⟩=some (.slice a ts.length ca):=⟨(X1.keep D5).c 0,(X1.keep D5).c 1⟩
 obtain ⟨g0,g1,g2,g3,g4⟩:w5.cell? ⟨w.heap.size+1,0,none⟩=some (.int .i64 p.q)∧w5.cell? ⟨w.heap.size+1,1,none⟩=some (.int .i64 p.s)∧w5.cell? ⟨w.heap.size+1,2,none⟩=some (.slice p.a p.l.length p.cap)∧w5.cell? ⟨w.heap.size+1,3,none⟩=some (.int .i64 p.fr)∧w5.cell? ⟨w.heap.size+1,4,none⟩=some (.int .i64 p.b):=⟨(X2.keep D5).c 0,(X2.keep D5).c 1,(X2.keep D5).c 2,(X2.keep D5).c 3,(X2.keep D5).c 4⟩
 go_wp2_with fail
 refine (atS_any la a b o ca ts nm _ hl (HSB.out _ D5).1).mono ?_
 rintro e w6 ⟨pl,rfl,hpl6,hb6⟩
 have D6:=D5.trans (hb6.mono D5.size)
 have D6':=D5'.trans (hb6.mono D5'.size)
 clear f0 f1 g0 g1 g2 g3 g4 hb6
 obtain ⟨f0,f1⟩:w6.cell? ⟨w.heap.size,0,none⟩=some (.int .i64 la)∧w6.cell? ⟨w.heap.size,1,none⟩=some (.slice a ts.length ca):=⟨(X1.keep D6).c 0,(X1.keep D6).c 1⟩
 obtain ⟨g0,g1,g2,g3,g4⟩:w6.cell? ⟨w.heap.size+1,0,none⟩=some (.int .i64 p.q)∧w6.cell? ⟨w.heap.size+1,1,none⟩=some (.int .i64 p.s)∧w6.cell? ⟨w.heap.size+1,2,none⟩=some (.slice p.a p.l.length p.cap)∧w6.cell? ⟨w.heap.size+1,3,none⟩=some (.int .i64 p.fr)∧w6.cell? ⟨w.heap.size+1,4,none⟩=some (.int .i64 p.b):=⟨(X2.keep D6).c 0,(X2.keep D6).c 1,(X2.keep D6).c 2,(X2.keep D6).c 3,(X2.keep D6).c 4⟩
 rcases hpl6 with ⟨rfl,-⟩ | ⟨k,t,rfl,htk,hft⟩
 rotate_left
 ·have:=HNO.out; rw [this] at hft; cases hft
 go_wp2_with fail
 refine (l23Free_any la now nm p _ b o ca ts true _ hl hsm hpl (HSB.out _ D6).1 (HSB.out _ D6).2 HFR.out).mono ?_
 rintro e w7 ⟨rfl,hb7⟩
 have D7':=D6'.trans (hb7.mono D6'.size)
 have S7:=SN.keep D7'
 clear f0 f1 g0 g1 g2 g3 g4 SN D7' D6 D6' D5 D5' D3 hb7 H9 H4 hnow
 have HUL:Hid (us.length=ts.length):=by show _=_; have:=congrArg List.length HK.out; simpa using this
 have HU8:Hid (us.length≤8):=by show _≤_; rw [HUL.out]; exact H88.out
 have HCX:Hid (W0.heap.size≤CX):=S7.k
 have x0:w7.cell? ⟨CX,0,none⟩=some (.int .i64 la):=S7.bk.c 0
 have xf:w7.frozen? ⟨CX,0,none⟩=false:=S7.bk.f 0
 have S8:=S7.last (la+1)
 obtain ⟨W8,hW8⟩:∃ W8,w7.setCell ⟨CX,0,none⟩ (.int .i64 (la+1))=W8:=⟨_,rfl⟩
 rw [hW8] at S8
 have HS8:Hid (FsW W0 W8 CX (la+1) (.slice va us.length vc) us):=S8
 clear S7 S8
 go_wp2
 clear x0 xf hW8
 have KH:Hid (∀ X:World,Below W8.heap.size W8 X→X.cell? ⟨CX,0,none⟩=some (.int .i64 (la+1))∧X.cell? ⟨CX,1,none⟩=some (.slice va us.length vc)∧X.cell? ⟨w.heap.size+1,0,none⟩=some (.int .i64 p.q)∧X.cell? ⟨w.heap.size+1,1,none⟩=some (.int .i64 p.s)∧X.cell? ⟨w.heap.size+1,2,none⟩=some (.slice p.a p.l.length p.cap)∧X.cell? ⟨w.heap.size+1,3,none⟩=some (.int .i64 p.fr)∧X.cell? ⟨w.heap.size+1,4,none⟩=some (.int .i64 p.b)):=fun X hb=>⟨(HS8.out.keep hb).bk.c 0,(HS8.out.keep hb).bk.c 1,(X2.keep (HS8.out.keep hb).old).c 0,(X2.keep (HS8.out.keep hb).old).c 1,(X2.keep (HS8.out.keep hb).old).c 2,(X2.keep (HS8.out.keep hb).old).c 3,(X2.keep (HS8.out.keep hb).old).c 4⟩
 have KF:Hid (∀ X:World,Below W8.heap.size W8 X→∀ j,X.frozen? ⟨CX,j,none⟩=false):=fun X hb=>(HS8.out.keep hb).bk.f
 have HP8:Hid (∀ X:World,Below W8.heap.size W8 X→PtAt X p):=fun X hb=>(HSB.out _ (HS8.out.keep hb).old).2
 have HOW:Hid (∀ X:World,Below W8.heap.size W8 X→BkOwn X W0.heap.size (.slice va us.length vc) us):=fun X hb=>(HS8.out.keep hb).own
 refine region_inv 8 (by kernel_rfl) (by kernel_rfl) (by kernel_rfl) (by kernel_rfl) (FtI p nm la CX vc va us W8 w.heap.size) (.mk (Ft.zero ((Below.refl _ _).drew))) ?_ ?_
 ·change StepsOk _ _ _ _ _ [0,1,2,3,4,5,6,7]
  refine StepsOk.cons rfl (fun L a V hL hd hI Kq hK=>?_) ?_
  ·cases hI with
   | mk h =>
    obtain ⟨c0,c1,c2,c3,c4,c5,c6⟩:=KH.out _ h.m
    go_simp
    exact hK _ _ (.mk (h.s0))
  refine StepsOk.cons rfl (fun L a V hL hd hI Kq hK=>?_) ?_
  ·cases hI with
   | mk h =>
    go_simp
    exact hK _ _ (.mk (h.s1))
  refine StepsOk.cons rfl (fun L a V hL hd hI Kq hK=>?_) ?_
  ·cases hI with
   | mk h =>
    go_simp
    exact hK _ _ (.mk (h.s2))
  refine StepsOk.cons rfl (fun L a V hL hd hI Kq hK=>?_) ?_
  ·cases hI with
   | mk h =>
    obtain rfl:=h.o2 (hd 2 (by kernel_rfl))
    obtain ⟨c0,c1,c2,c3,c4,c5,c6⟩:=KH.out _ h.m
    go_simp
    exact hK _ _ (.mk (h.s3))
  refine StepsOk.cons rfl (fun L a V hL hd hI Kq hK=>?_) ?_
  ·cases hI with
   | mk h =>
    obtain ⟨c0,c1,c2,c3,c4,c5,c6⟩:=KH.out _ h.m
    go_simp
    exact hK _ _ (.mk (h.s4))
  refine StepsOk.cons rfl (fun L a V hL hd hI Kq hK=>?_) ?_
  ·cases hI with
   | mk h =>
    obtain rfl:=h.o4 (hd 4 (by kernel_rfl))
    go_simp
    refine (copyS_pt p _ hpl (HP8.out _ h.m)).mono ?_
    rintro e V1 ⟨ya,yc,rfl,ho,hb⟩
    exact hK _ _ (.mk ((h.grow hb).s5 hL (owns_lowerO ho h.m.size)))
  refine StepsOk.cons rfl (fun L a V hL hd hI Kq hK=>?_) ?_
  ·cases hI with
   | mk h =>
    obtain rfl:=h.o1 (hd 1 (by kernel_rfl))
    obtain rfl:=h.o3 (hd 3 (by kernel_rfl))
    have g5:L 5:=(hd 5 (by kernel_rfl))
    obtain ⟨ya,yc,e,_⟩:=h.o5 g5
    subst e
    go_simp
    exact hK _ _ (.mk (h.s6 g5 rfl))
  refine StepsOk.cons rfl (fun L a V hL hd hI Kq hK=>?_) ?_
  ·cases hI with
   | mk h =>
    have g5:=h.d6 (hd 6 (by kernel_rfl))
    obtain rfl:=h.o0 (hd 0 (by kernel_rfl))
    obtain ⟨ya,yc,e,e6⟩:=h.o6 (hd 6 (by kernel_rfl))
    subst e6
    subst e
    go_simp
    refine (putS_own (la+1) va vc _ us (fileH p nm la ya yc) V (by have:=HU8.out; omega) (HOW.out _ h.m)).mono ?_
    rintro e1 V1 ⟨xa,xc,i,rfl,hi,hput,ho,hb⟩
    exact hK _ _ (.mk ((h.grow hb).s7 g5 rfl ⟨hi,hput⟩ (owns_lowerO ho h.m.size)))
  exact StepsOk.nil
 intro fuel a9 w11 hI
 cases hI with
 | mk h =>
  obtain ⟨ya,yc,e,hya⟩:=h.o5 (by decide)
  obtain ⟨ya',yc',xa,xc,i,e',e67,⟨hi,hput⟩,hox⟩:=h.o7 (by decide)
  subst e
  cases e'
  subst e67
  have E11:=h.m
  clear h
  obtain ⟨k10,k11,-⟩:=KH.out _ E11
  have kf:=KF.out _ E11
  refine wpAny_ready (rs:=[8]) (by kernel_rfl) (by simp) ?_
  refine AllReady.cons rfl (fun Kq hK=>?_) AllReady.nil
  go_simp
  refine hK _ _ ?_
  clear hK Kq
  refine wpAny_done (by kernel_rfl) ?_ _
  have HPUT:Hid (putK (us.map Hd.key) (fileH p nm la ya yc).key=(us.map Hd.key).take i ++ (fileH p nm la ya yc).key :: (us.map Hd.key).drop i):=hput
  have z8:=HS8.out.old.size
  have hH0:HdOwn w11 W8.heap.size (fileH p nm la ya yc):=⟨hya,World.ownsRow_nil _ _ _ _,fun k _=>by simp [Value.ownBlock]⟩
  have O12:BkOwn w11 W0.heap.size (.slice xa (us.length+1) xc) (us.take i ++ fileH p nm la ya yc :: us.drop i):=(HOW.out _ E11).insert (owns_lowerO hox z8) hi (grownB (Below.refl _ _) _) (hH0.lower z8) (apart_new HS8.out.own hH0 (Nat.le_refl _))
  have hne:∀ k∈bkBlks (.slice xa (us.length+1) xc) (us.take i ++ fileH p nm la ya yc :: us.drop i),k≠CX:=fun k hk e=>by
   subst e
   have hc:=HS8.out.bk.lt
   rcases bkBlks_insert hk with h | h | ⟨t,ht,h⟩
   ·have:=(owns_base hox k h); omega
   ·have:=(hH0.lt k h).1; omega
   ·exact HS8.out.ne k (by simp only [bkBlks,List.mem_append,List.mem_flatMap]; exact .inr ⟨t,ht,h⟩) rfl
  have S12:=(HS8.out.keep E11).book O12 hne
  obtain ⟨W12,hW12⟩:∃ W12,(w11.setCell ⟨CX,0,none⟩ (.int .i64 (la+1))).setCell ⟨CX,1,none⟩ (.slice xa (us.length+1) xc)=W12:=⟨_,rfl⟩
  rw [hW12] at S12
  have HS:Hid (FsW W0 W12 CX (la+1) (.slice xa (us.length+1) xc) (us.take i ++ fileH p nm la ya yc :: us.drop i)):=S12
  rw [hW12]
  clear S12 hne O12 hH0 hya z8 hW12 hox E11 KH KF HP8 HOW HS8 k10 k11 kf hput
  have E12:Below W12.heap.size W12 W12.drew:=(Below.refl _ _).drew
  have KH:Hid (∀ X:World,Below W12.heap.size W12 X→X.cell? ⟨CX,0,none⟩=some (.int .i64 (la+1))∧X.cell? ⟨CX,1,none⟩=some (.slice xa (us.length+1) xc)∧X.cell? ⟨w.heap.size+1,0,none⟩=some (.int .i64 p.q)∧X.cell? ⟨w.heap.size+1,1,none⟩=some (.int .i64 p.s)∧X.cell? ⟨w.heap.size+1,2,none⟩=some (.slice p.a p.l.length p.cap)∧X.cell? ⟨w.heap.size+1,3,none⟩=some (.int .i64 p.fr)∧X.cell? ⟨w.heap.size+1,4,none⟩=some (.int .i64 p.b)):=fun X hb=>⟨(HS.out.keep hb).bk.c 0,(HS.out.keep hb).bk.c 1,(X2.keep (HS.out.keep hb).old).c 0,(X2.keep (HS.out.keep hb).old).c 1,(X2.keep (HS.out.keep hb).old).c 2,(X2.keep (HS.out.keep hb).old).c 3,(X2.keep (HS.out.keep hb).old).c 4⟩
  have HP12:Hid (∀ X:World,Below W12.heap.size W12 X→PtAt X p):=fun X hb=>(HSB.out _ (HS.out.keep hb).old).2
  have hU2:∀ t∈(us.take i ++ fileH p nm la ya yc :: us.drop i),t.p.l.length≤1048576∧t.x.l.length≤1048576:=fun t ht=>by
   have hall:=small_keys HK.out hsm
   rcases List.mem_append.1 ht with h | h
   ·exact hall t (List.mem_of_mem_take h)
   ·rcases List.mem_cons.1 h with rfl | h
    ·exact ⟨hpl,by simp⟩
    ·exact hall t (List.mem_of_mem_drop h)
  have hL2:((us.take i ++ fileH p nm la ya yc :: us.drop i)).length≤1048576:=by have:=HU8.out; simp; omega
  have HCB:Hid (∀ X:World,Below W12.heap.size W12 X→Calls Tryz.prog 24 #[.agg #[.int .i64 (la+1),(.slice xa (us.length+1) xc)]] X
    fun e w'=>∃ (a:Option Addr) (c:Nat) (vs:List Hd),e=.returned (.agg #[.int .i64 (la+1),.slice a vs.length c])∧vs.map Hd.key=((us.take i ++ fileH p nm la ya yc :: us.drop i)).map Hd.key∧BkOwn w' X.heap.size (.slice a vs.length c) vs∧Below X.heap.size X w'):=fun X hb=>copyBS_own (la+1) _ _ _ X hL2 hU2 (HS.out.keep hb).own
  have RS:Hid (∀ X:World,Below W12.heap.size W12 X→Cbx X (w.heap.size+1+1) #[.int .i64 0,.slice none 0 0]∧Cbx X (w.heap.size+1+1+1) #[.int .i64 0,.string ⟨#[]⟩,.int .i64 0,.int .i64 0,.int .i64 0,.slice none 0 0,.int .i64 0,.int .i64 0]):=fun X hb=>⟨X3.keep (HS.out.keep hb).old,X4.keep (HS.out.keep hb).old⟩
  have n1:CX≠w.heap.size+1+1:=by have:=HCX.out; omega
  have n2:CX≠w.heap.size+1+1+1:=by have:=HCX.out; omega
  clear hU2 hL2 hi
  go_wp2
  go_region_held3 (fun w'=>w'.cell? ⟨CX,0,none⟩=some (.int .i64 (la+1))∧w'.cell? ⟨CX,1,none⟩=some (.slice xa (us.length+1) xc)∧w'.cell? ⟨w.heap.size+1,0,none⟩=some (.int .i64 p.q)∧w'.cell? ⟨w.heap.size+1,1,none⟩=some (.int .i64 p.s)∧w'.cell? ⟨w.heap.size+1,2,none⟩=some (.slice p.a p.l.length p.cap)∧w'.cell? ⟨w.heap.size+1,3,none⟩=some (.int .i64 p.fr)∧w'.cell? ⟨w.heap.size+1,4,none⟩=some (.int .i64 p.b))
   (first | with_reducible exact KH.out _ E12 | with_reducible exact KH.out _ EB | with_reducible exact KH.out _ EP | simp [go_sem, *])
   (first
    | (go_at_call 24; refine (HCB.out _ E12).mono ?_; rintro e wB ⟨ba,bc,uB,rfl,hkB,oB,hbB⟩; have EB:=E12.trans (hbB.mono E12.size))
    | (go_at_call 30; refine (copyS_pt p _ hpl (HP12.out _ EB)).mono ?_; rintro e wP ⟨wa,wc,rfl,oP,hbP⟩; have EP:=EB.trans (hbP.mono EB.size); have RR:=RS.out _ EP; obtain ⟨m0,z0⟩:∃ v,wP.cell? ⟨w.heap.size+1+1,0,none⟩=some v:=⟨_,RR.1.c 0⟩; obtain ⟨m1,z1⟩:∃ v,wP.cell? ⟨w.heap.size+1+1,1,none⟩=some v:=⟨_,RR.1.c 1⟩; obtain ⟨o0,q0⟩:∃ v,wP.cell? ⟨w.heap.size+1+1+1,0,none⟩=some v:=⟨_,RR.2.c 0⟩; obtain ⟨o1,q1⟩:∃ v,wP.cell? ⟨w.heap.size+1+1+1,1,none⟩=some v:=⟨_,RR.2.c 1⟩; obtain ⟨o2,q2⟩:∃ v,wP.cell? ⟨w.heap.size+1+1+1,2,none⟩=some v:=⟨_,RR.2.c 2⟩; obtain ⟨o3,q3⟩:∃ v,wP.cell? ⟨w.heap.size+1+1+1,3,none⟩=some v:=⟨_,RR.2.c 3⟩; obtain ⟨o4,q4⟩:∃ v,wP.cell? ⟨w.heap.size+1+1+1,4,none⟩=some v:=⟨_,RR.2.c 4⟩; obtain ⟨o5,q5⟩:∃ v,wP.cell? ⟨w.heap.size+1+1+1,5,none⟩=some v:=⟨_,RR.2.c 5⟩; obtain ⟨o6,q6⟩:∃ v,wP.cell? ⟨w.heap.size+1+1+1,6,none⟩=some v:=⟨_,RR.2.c 6⟩; obtain ⟨o7,q7⟩:∃ v,wP.cell? ⟨w.heap.size+1+1+1,7,none⟩=some v:=⟨_,RR.2.c 7⟩; have zf:=RR.1.f; have qf:=RR.2.f; clear RR; have kk:=KH.out _ EP; have kd0:=kk.1; have kd1:=kk.2.1; have kd2:=kk.2.2.1; have kd3:=kk.2.2.2.1; have kd4:=kk.2.2.2.2.1; have kd5:=kk.2.2.2.2.2.1; have kd6:=kk.2.2.2.2.2.2; clear kk)
    | fail)
  have zc:W0.heap.size≤W12.heap.size:=HS.out.old.size
  have B12:Below w.heap.size w wP:=BW.trans ((HS.out.old.trans (EP.mono HS.out.old.size)).mono BW.size)
  have zz:(W12.drew).heap.size=W12.heap.size:=by simp
  have OB1:BkOwn wB W12.heap.size (.slice ba uB.length bc) uB:=by rw [← zz]; exact oB
  have LB:=OB1.lt
  have OBL:BkOwn wP W12.heap.size (.slice ba uB.length bc) uB:=OB1.below hbP
  have OPL:wP.ownsRow wB.heap.size 98 7 (.slice wa p.l.length wc) p.l.length (stepCells p.l):=oP
  have hBs:W12.heap.size≤wB.heap.size:=EB.size
  have bB:=owns_base OPL
  have HKY:Hid (uB.map Hd.key=putK (ts.map Hd.key) (nm,la+1,p.key,0,(0,0,0,0,[]))):=by
   show _=_
   rw [hkB,← HK.out,← fileH_key p nm la ya yc,HPUT.out,List.map_append,List.map_cons,List.map_take,List.map_drop]
  clear KH HP12 RS kd0 kd1 kd2 kd3 kd4 kd5 kd6 HSB HCB hkB
  go_wp2
  refine bodyPost_ret (v:=.tuple #[.agg #[.int .i64 (la+1),.slice ba uB.length bc],.agg #[.int .i64 1,.string nm,.int .i64 (la+1),.int .i64 p.q,.int .i64 p.s,.slice wa p.l.length wc,.int .i64 p.fr,.int .i64 p.b],.int .i64 0]) (by simp [results,Tryz.results7,go_sem,z0,z1,q0,q1,q2,q3,q4,q5,q6,q7]) rfl ⟨_,_,_,uB,wa,wc,wB.heap.size,rfl,HKY.out,?_,fun k hk=>(LB k hk).2,?_,?_⟩
  ·refine BkOwn.lower (base:=W12.heap.size) ?_ (by omega)
   iterate 8 (refine BkOwn.spared (S:=[w.heap.size+1+1+1]) ?_ (Spared.grown (grown_set _ ⟨w.heap.size+1+1+1,_,none⟩ _) (fun k e=>by cases e; simp)) (fun k hk e=>by have:=(LB k hk).1; simp at e; omega))
   iterate 2 (refine BkOwn.spared (S:=[w.heap.size+1+1]) ?_ (Spared.grown (grown_set _ ⟨w.heap.size+1+1,_,none⟩ _) (fun k e=>by cases e; simp)) (fun k hk e=>by have:=(LB k hk).1; simp at e; omega))
   exact OBL
  ·iterate 8 (refine Spared.owns (S:=[w.heap.size+1+1+1]) (Spared.grown (grown_set _ ⟨w.heap.size+1+1+1,_,none⟩ _) (fun k e=>by cases e; simp)) ?_ (fun k hk e=>by have h9:=bB k hk; simp at e h9; omega))
   iterate 2 (refine Spared.owns (S:=[w.heap.size+1+1]) (Spared.grown (grown_set _ ⟨w.heap.size+1+1,_,none⟩ _) (fun k e=>by cases e; simp)) ?_ (fun k hk e=>by have h9:=bB k hk; simp at e h9; omega))
   exact OPL
  ·iterate 8 (refine Below.setCell ?_ (show w.heap.size≤w.heap.size+1+1+1 by omega) _)
   iterate 2 (refine Below.setCell ?_ (show w.heap.size≤w.heap.size+1+1 by omega) _)
   exact B12
theorem freeS_keys {now:Int} {nm:ByteArray} {p q:Pt} {ts us:List Hd} (hk:q.key=p.key) (h:us.map Hd.key=ts.map Hd.key):freeS nm q.key now us=freeS nm p.key now ts:=by
 have e:∀ l:List Hd,freeS nm p.key now l=(l.map Hd.key).all fun k=>decide (k.1=nm) || !(meetsK k.2.2.1 p.key now || meetsK k.2.2.2.2 p.key now):=fun l=>by
  unfold freeS
  rw [List.all_map]
  rfl
 rw [hk,e,e,h]
theorem find_keys {nm:ByteArray} {ts us:List Hd} (h:us.map Hd.key=ts.map Hd.key):(us.find? (hasN nm)).map Hd.key=(ts.find? (hasN nm)).map Hd.key:=by
 have e:∀ l:List Hd,(l.find? (hasN nm)).map Hd.key=(l.map Hd.key).find? (fun k=>decide (k.1=nm)):=fun l=>by
  rw [List.find?_map]
  rfl
 rw [e,e,h]
theorem fly_steps {p:Pt} (h:p.fly=true):1≤p.l.length:=by
 have hp:pathB p.q p.s p.fr p.b p.l=true:=by unfold Pt.fly flyB at h; rw [Bool.and_eq_true] at h; exact h.1
 exact (path_len hp).1
theorem book_last {la now:Int} {ts:List Hd} (h:bookB la now ts=true):0≤la∧la≤1000000:=by
 rw [← book_one] at h
 unfold bookS at h
 simp only [Bool.and_eq_true,inB_iff] at h
 exact h.2.2.1
theorem BkAns.none (W:World) (lo hi:Nat):BkAns W lo hi (.slice none 0 0) []:=⟨[],BkOwn.nil W lo,rfl,fun k hk=>by simp [bkBlks,Value.ownBlock] at hk⟩
theorem WdAns.none (W:World) (lo hi:Nat):WdAns W lo hi none 0 []:=⟨World.ownsRow_nil _ _ _ _,fun k hk=>by simp [Value.ownBlock] at hk⟩
theorem copied_put {W:World} {g:Nat} {ts us:List Hd} (h1:HdsPut W g ts us):∀ t∈us,t.p.a=some ⟨t.p.b0,t.p.o,Option.none⟩∧t.x.a=some ⟨t.x.b0,t.x.o,Option.none⟩:=fun u hu=>by
 obtain ⟨i,hi⟩:=List.mem_iff_getElem?.1 hu
 have hil:i < ts.length:=by have:=(List.getElem?_eq_some_iff.1 hi).1; have:=h1.len; omega
 obtain ⟨a,b,e⟩:=h1.copied.at_ i ts[i] (List.getElem?_eq_getElem hil)
 rw [hi] at e
 cases e
 exact ⟨rfl,rfl⟩
theorem ans_slice {W:World} {lo hi:Nat} {va:Option Addr} {vn vc:Nat} {ks:List HKey} (h:BkAns W lo hi (.slice va vn vc) ks):vn=ks.length:=by
 obtain ⟨a,c,e⟩:=h.slice
 injection e
theorem mid_in {W:World} {base mid n e size:Nat} {v v':Value} {us:List Hd} {xs:List Value} (ho:BkOwn W base v us) (hu:0 < us.length) (hlo:∀ k∈bkBlks v us,k < mid) (hw:W.ownsRow mid e size v' n xs) (hn:0 < n):base≤mid∧mid≤W.heap.size:=by
 obtain ⟨g,cap,rfl,h1,h2⟩:=owns_some ho.row hu
 obtain ⟨g',cap',rfl,h3,h4⟩:=owns_some hw hn
 have:=hlo g (by simp [bkBlks,Value.ownBlock])
 omega
theorem wait_key {p q:Pt} {now:Int} (hk:q.key=p.key):waitB q now=waitB p now:=by
 obtain ⟨q1,s,fr,b,a,b0,o,cap,l⟩:=p
 obtain ⟨q1',s',fr',b',a',b0',o',cap',l'⟩:=q
 simp only [Pt.key,Prod.mk.injEq] at hk
 obtain ⟨rfl,rfl,rfl,rfl,rfl⟩:=hk
 rfl
theorem wait_steps {p:Pt} {now:Int} (h:waitB p now=true):1≤p.l.length:=by
 unfold waitB at h
 rw [Bool.and_eq_true] at h
 exact fly_steps h.1
theorem fileC_keys {la now:Int} {nm:ByteArray} {p q:Pt} {ts us:List Hd} (hk:q.key=p.key) (h:us.map Hd.key=ts.map Hd.key):fileC la now nm q us=fileC la now nm p ts:=by
 have e3:=find_keys (nm:=nm) h
 have e5:us.length=ts.length:=by have:=congrArg List.length h; simpa using this
 unfold fileC
 rw [bookB_keys h,wait_key hk,freeS_keys hk h,e5]
 cases hu:us.find? (hasN nm) with
 | none =>
  cases ht:ts.find? (hasN nm) with
  | none=>rfl
  | some t=>rw [hu,ht] at e3; simp at e3
 | some u =>
  cases ht:ts.find? (hasN nm) with
  | none=>rw [hu,ht] at e3; simp at e3
  | some t=>rfl
theorem totK_append:∀ (ks ls:List HKey),totK (ks ++ ls)=totK ks+totK ls
 | [],ls=>by simp [totK]
 | k :: ks,ls=>by simp only [List.cons_append,totK,totK_append ks ls]; omega
theorem putK_split {α:Type} (ks:List (ByteArray × α)) (k:ByteArray × α):∃ l r,putK ks k=l ++ k :: r∧l ++ r=ks:=⟨_,_,rfl,List.takeWhile_append_dropWhile⟩
theorem totK_put (ks:List HKey) (k:HKey):totK (putK ks k)=totK ks+(3+(4+k.2.2.1.2.2.2.2.length * 7)+(4+k.2.2.2.2.2.2.2.2.length * 7)):=by
 obtain ⟨l,r,e1,e2⟩:=putK_split ks k
 rw [e1,← e2,totK_append,totK_append]
 simp only [totK]
 omega
theorem put_length (ks:List HKey) (k:HKey):(putK ks k).length=ks.length+1:=by
 obtain ⟨l,r,e1,e2⟩:=putK_split ks k
 rw [e1,← e2,List.length_append,List.length_append,List.length_cons]
 omega
theorem smallK_put {ks:List HKey} {k:HKey} (h:smallK ks) (hk:k.2.2.1.2.2.2.2.length≤1048576∧k.2.2.2.2.2.2.2.2.length≤1048576):smallK (putK ks k):=fun x hx=>by
 obtain ⟨l,r,e1,e2⟩:=putK_split ks k
 rw [e1] at hx
 rw [← e2] at h
 rcases List.mem_append.1 hx with hx | hx
 ·exact h x (List.mem_append_left _ hx)
 ·rcases List.mem_cons.1 hx with rfl | hx
  ·exact hk
  ·exact h x (List.mem_append_right _ hx)
set_option maxHeartbeats 2000000 in
theorem fileLaw_all (hI:SpansSaid) (t:Bk) (nm:ByteArray) (p:Pt) (now:Int) (w:World) (hR:∀ u∈t.ts,inR u.n∧inR u.sn) (hg:ErrT w) (hnt:t.ts.length≤maxLen) (htt:∀ u∈t.ts,u.nm.size≤maxLen∧u.p.l.length≤maxLen∧u.x.l.length≤maxLen) (hbp:p.l.length≤maxLen) (ht:BkAt w t) (hp:PtAt w p) :
  Calls Tryz.prog 3 #[.agg #[.int .i64 t.la,.slice t.a t.ts.length t.cap],.string nm,.agg #[.int .i64 p.q,.int .i64 p.s,.slice p.a p.l.length p.cap,.int .i64 p.fr,.int .i64 p.b],.int .i64 now] w fun e w'=>e=.returned (.bool true)∧Below w.heap.size w w':=by
 by_cases hznm:(1048576:Int) < (nm.size:Int)
 ·exact fileLaw_long t nm p now w hnt htt hbp ht hp hznm
 by_cases hsmt:leftHs 1048576 t.ts < 0
 ·exact fileLaw_big0 t nm p now w hnt htt hbp ht hp hznm hsmt
 by_cases hsmp:leftB (leftHs 1048576 t.ts) p.l.length < 0
 ·exact fileLaw_big1 t nm p now w hnt htt hbp ht hp hznm hsmt hsmp
 obtain ⟨hlt,hst,hmt,hlot,hhit⟩:=tot_book (left:=1048576) (ts:=t.ts) (by omega) (by omega) hsmt
 have hlp:p.l.length≤1048576:=by
  have:=leftB_left (leftHs 1048576 t.ts) p.l.length (by omega) (by omega)
  unfold leftB at hsmp
  split at hsmp <;> omega
 have hks:smallK (t.ts.map Hd.key):=fun k hk=>by obtain ⟨q,hq,rfl⟩:=List.mem_map.1 hk; exact hst q hq
 cases hb:bookB t.la now t.ts with
 | false =>
  have hc:=fileC_book (nm:=nm) (p:=p) hb
  refine fileLaw_any t nm p now w 0 0 0 0 0 0 0 1 ⟨#[]⟩ [] [] (by simp) (fun k hk=>by cases hk) (by simp [totK]) (by simp) ?_ ?_ hnt htt hbp ht hp hznm hsmt hsmp
  ·intro gt hit gp hip W hB hq hp'
   obtain ⟨us,h1,_⟩:=hq.it
   have h:=fileS_one t.la now nm (p.put gp) (some ⟨gt,0,none⟩) gt 0 t.ts.length us W (by rw [h1.len]; exact hlt) (fun u hu=>h1.copied.small hst u hu) h1.rows (by rw [bookB_keys h1.copied.keys]; exact hb)
   rw [h1.len] at h
   refine h.mono ?_
   rintro e w' ⟨rfl,hb'⟩
   exact ⟨none,0,none,0,w'.heap.size,rfl,BkAns.none _ _ _,WdAns.none _ _ _,hb'.size,Nat.le_refl _,hb'⟩
  ·intro gt hit gp hip W hB hq hp'
   obtain ⟨us,h1,_⟩:=hq.it
   have h:=fileI_no hI t.la now nm (p.put gp) (some ⟨gt,0,none⟩) gt 0 t.ts.length us W (by rw [h1.len]; exact hlt) (fun u hu=>h1.copied.small hst u hu) hlp (copied_inR h1.copied hR) h1.rows hp'.at_ (hg.below hB) 1 (by rw [fileC_keys (q:=p.put gp) (p:=p) rfl h1.copied.keys]; exact hc) (by decide)
    (fun lb v _=>lb=0∧v=.slice none 0 0) (fun W1 _ _ _=>(refused_one _ _ _ _ W1).mono fun e w' ⟨h2,h3⟩=>⟨0,none,0,0,h2,⟨rfl,rfl⟩,h3⟩) (fun _ _ _ _ _ h _ _=>h)
   rw [h1.len] at h
   refine h.mono ?_
   rintro e w' ⟨lb,va,vn,vc,rfl,⟨rfl,hv⟩,hb'⟩
   cases hv
   exact ⟨none,0,none,0,w'.heap.size,rfl,BkAns.none _ _ _,WdAns.none _ _ _,hb'.size,Nat.le_refl _,hb'⟩
 | true =>
  have hla:=book_last hb
  by_cases hc:fileC t.la now nm p t.ts=0
  ·obtain ⟨_,_,hy,_,_,_,_⟩:=fileC_ok hc
   have htk:=totK_put (t.ts.map Hd.key) (nm,t.la+1,p.key,0,(0,0,0,0,[]))
   rw [totK_of] at htk
   have ep:(p.key).2.2.2.2.length=p.l.length:=rfl
   have h8:=(book_held hb).1
   simp only [ep,List.length_nil] at htk
   refine fileLaw_any t nm p now w (t.la+1) 1 (t.la+1) p.q p.s p.fr p.b 0 nm (putK (t.ts.map Hd.key) (nm,t.la+1,p.key,0,(0,0,0,0,[]))) p.l (by rw [put_length,List.length_map]; omega) (smallK_put hks ⟨hlp,by simp⟩) (by omega) hlp ?_ ?_ hnt htt hbp ht hp hznm hsmt hsmp
   ·intro gt hit gp hip W hB hq hp'
    obtain ⟨us,h1,_⟩:=hq.it
    have h:=fileS_yes t.la now nm (p.put gp) (some ⟨gt,0,none⟩) gt 0 t.ts.length us W (by rw [h1.len]; exact hlt) (fun u hu=>h1.copied.small hst u hu) hlp rfl h1.rows hp'.at_ (by rw [fileC_keys (q:=p.put gp) (p:=p) rfl h1.copied.keys]; exact hc) hla
    rw [h1.len] at h
    refine h.mono ?_
    rintro e w' ⟨va,vn,vc,vs,wa,wc,mid,rfl,hk,ho,hlo,hw,hb'⟩
    rw [h1.copied.keys] at hk
    have ha:BkAns w' W.heap.size mid (.slice va vn vc) (putK (t.ts.map Hd.key) (nm,t.la+1,p.key,0,(0,0,0,0,[]))):=⟨vs,ho,hk,hlo⟩
    have hvs:0 < vs.length:=by
     have e1:=congrArg List.length hk
     rw [List.length_map,put_length] at e1
     omega
    have hm:=mid_in ho hvs hlo hw (by have:=wait_steps (p:=p) hy; show 0 < p.l.length; omega)
    obtain rfl:=ans_slice ha
    exact ⟨va,vc,wa,wc,mid,rfl,ha,WdAns.of hw,hm.1,hm.2,hb'⟩
   ·intro gt hit gp hip W hB hq hp'
    obtain ⟨us,h1,_⟩:=hq.it
    have h:=fileI_yes hI t.la now nm (p.put gp) (some ⟨gt,0,none⟩) gt 0 t.ts.length us W (by rw [h1.len]; exact hlt) (fun u hu=>h1.copied.small hst u hu) hlp (copied_inR h1.copied hR) (copied_put h1) rfl h1.rows hp'.at_ hla (by rw [fileC_keys (q:=p.put gp) (p:=p) rfl h1.copied.keys]; exact hc)
    rw [h1.len] at h
    refine h.mono ?_
    rintro e w' ⟨va,vn,vc,vs,wa,wc,mid,rfl,hk,ho,hlo,hw,hb'⟩
    rw [h1.copied.keys] at hk
    have ha:BkAns w' W.heap.size mid (.slice va vn vc) (putK (t.ts.map Hd.key) (nm,t.la+1,p.key,0,(0,0,0,0,[]))):=⟨vs,ho,hk,hlo⟩
    have hvs:0 < vs.length:=by
     have e1:=congrArg List.length hk
     rw [List.length_map,put_length] at e1
     omega
    have hm:=mid_in ho hvs hlo hw (by have:=wait_steps (p:=p) hy; show 0 < p.l.length; omega)
    obtain rfl:=ans_slice ha
    exact ⟨va,vc,wa,wc,mid,rfl,ha,WdAns.of hw,hm.1,hm.2,hb'⟩
  ·have hc1:¬ fileC t.la now nm p t.ts=1:=fun e=>by
    cases hf:nameB nm && waitB p now with
    | false=>rw [fileC_wait hb hf] at e; omega
    | true =>
     cases hu:t.ts.find? (hasN nm) with
     | some u=>rw [fileC_some hb hf hu] at e; omega
     | none =>
      rw [fileC_none hb hf hu] at e
      split at e
      ·omega
      ·split at e <;> omega
   obtain ⟨c,hcc⟩:∃ c,fileC t.la now nm p t.ts=c:=⟨_,rfl⟩
   have hbc:(c == 1)=false:=by simp; omega
   refine fileLaw_any t nm p now w t.la 0 0 0 0 0 0 c ⟨#[]⟩ (t.ts.map Hd.key) [] (by rw [List.length_map]; exact hlt) hks (by rw [totK_of]; omega) (by simp) ?_ ?_ hnt htt hbp ht hp hznm hsmt hsmp
   ·intro gt hit gp hip W hB hq hp'
    obtain ⟨us,h1,_⟩:=hq.it
    have h:=fileS_no t.la now nm (p.put gp) (some ⟨gt,0,none⟩) gt 0 t.ts.length us W (by rw [h1.len]; exact hlt) (fun u hu=>h1.copied.small hst u hu) hlp rfl h1.rows hp'.at_ (by rw [bookB_keys h1.copied.keys]; exact hb) (by rw [fileC_keys (q:=p.put gp) (p:=p) rfl h1.copied.keys]; exact hc) hla.2
    rw [h1.len,fileC_keys (q:=p.put gp) (p:=p) rfl h1.copied.keys,hcc] at h
    refine h.mono ?_
    rintro e w' ⟨va,vn,vc,vs,rfl,hk,ho,hb'⟩
    have ha:=BkAns.of ho
    rw [hk,h1.copied.keys] at ha
    obtain rfl:=ans_slice ha
    exact ⟨va,vc,none,0,w'.heap.size,rfl,ha,WdAns.none _ _ _,hb'.size,Nat.le_refl _,hb'⟩
   ·intro gt hit gp hip W hB hq hp'
    obtain ⟨us,h1,_⟩:=hq.it
    have h:=fileI_no hI t.la now nm (p.put gp) (some ⟨gt,0,none⟩) gt 0 t.ts.length us W (by rw [h1.len]; exact hlt) (fun u hu=>h1.copied.small hst u hu) hlp (copied_inR h1.copied hR) h1.rows hp'.at_ (hg.below hB) c (by rw [fileC_keys (q:=p.put gp) (p:=p) rfl h1.copied.keys]; exact hcc) (by omega)
     (fun lb v X=>lb=t.la∧∃ vs:List Hd,vs.map Hd.key=t.ts.map Hd.key∧BkOwn X (W.heap.size+1+1+1+1) v vs)
     (fun W1 _ hz hs1=>by
      have h2:=refused_more t.la c hbc (some ⟨gt,0,none⟩) gt 0 t.ts.length us W1 (by rw [h1.len]; exact hlt) (fun u hu=>h1.copied.small hst u hu) (copied_put h1) hs1
      refine h2.mono ?_
      rintro e w' ⟨v,vs,rfl,hk,ho,hb'⟩
      obtain ⟨a,c',rfl⟩:=own_slice ho.row
      exact ⟨t.la,a,_,c',rfl,⟨rfl,vs,hk.trans h1.copied.keys,ho.lower hz⟩,hb'⟩)
     (fun x v X X' S hv hsp hS=>by
      obtain ⟨e1,vs,e2,ho⟩:=hv
      refine ⟨e1,vs,e2,ho.spared hsp (fun k hk hk'=>?_)⟩
      have:=(ho.lt k hk).1
      have:=hS k hk'
      omega)
    rw [h1.len] at h
    refine h.mono ?_
    rintro e w' ⟨lb,va,vn,vc,rfl,⟨rfl,vs,hk,ho⟩,hb'⟩
    have ha:=BkAns.of (ho.lower (base':=W.heap.size) (by omega))
    rw [hk] at ha
    obtain rfl:=ans_slice ha
    exact ⟨va,vc,none,0,w'.heap.size,rfl,ha,WdAns.none _ _ _,hb'.size,Nat.le_refl _,hb'⟩
end Go.Proofs.YtgjleeamhkolhaaGreatDoor
