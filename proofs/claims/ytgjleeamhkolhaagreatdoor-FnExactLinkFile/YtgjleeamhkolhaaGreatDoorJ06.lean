/- Joined texts: Impl, LkBookT, LkOwn, LkBx, LkBookB, LkPtPut, LkOpenB. -/
import Derived.Test.YtgjleeamhkolhaaGreatDoorILeaf
import Derived.Test.YtgjleeamhkolhaaGreatDoorJ01
import Derived.Test.YtgjleeamhkolhaaGreatDoorLkBookC
import Derived.Test.YtgjleeamhkolhaaGreatDoorJ03
namespace Go.Proofs.YtgjleeamhkolhaaGreatDoor
open Go.RowKit
theorem kindM_any (q s:Int) (w:World) :
  Calls Tryz.prog 159 #[.agg #[.int .i64 q,.int .i64 s]] w fun e w'=>e=.returned (.bool (kindB q s))∧Below w.heap.size w w':=by
 have hb:=(Below.refl w.heap.size w).alloc (Nat.le_refl _) (.cells #[.int .i64 q,.int .i64 s] 35)
 by_cases h1:1≤q
 ·by_cases h2:q≤s
  ·go_enter Tryz.func159,Tryz.ntmps159
   go_wp2
   go_ret
   exact ⟨by simp [kindB,h1,h2],hb⟩
  ·have e1:kindB q s=false:=by simp [kindB]; omega
   go_enter Tryz.func159,Tryz.ntmps159
   go_wp2
   go_ret
   exact ⟨by first | rfl | (rw [e1]; rfl),hb⟩
 ·have e1:kindB q s=false:=by simp [kindB]; omega
  go_enter Tryz.func159,Tryz.ntmps159
  go_wp2
  go_ret
  exact ⟨by first | rfl | (rw [e1]; rfl),hb⟩
theorem kindIsOk_any (q s fr b:Int) (a:Option Addr) (n cap:Nat) (w:World) :
  Calls Tryz.prog 139 #[.agg #[.int .i64 q,.int .i64 s,.slice a n cap,.int .i64 fr,.int .i64 b]] w fun e w'=>e=.returned (.bool (kindB q s))∧Below w.heap.size w w':=by
 go_enter Tryz.func139,Tryz.ntmps139
 go_wp2_with (go_at_call 159; refine (kindM_any _ _ _).mono ?_; rintro e w1 ⟨rfl,hb1⟩)
 go_ret
 exact ⟨rfl,((Below.refl _ _).alloc (Nat.le_refl _) _).trans (hb1.mono (by simp))⟩
theorem stepCount_any (q s fr b:Int) (a:Option Addr) (n cap:Nat) (w:World) (hn:n≤1048576) :
  Calls Tryz.prog 140 #[.agg #[.int .i64 q,.int .i64 s,.slice a n cap,.int .i64 fr,.int .i64 b]] w fun e w'=>e=.returned (.bool (inB n 1 40))∧Below w.heap.size w w':=by
 have hb:=(Below.refl w.heap.size w).alloc (Nat.le_refl _) (.cells #[.int .i64 q,.int .i64 s,.slice a n cap,.int .i64 fr,.int .i64 b] 38)
 by_cases h1:(1:Int)≤(n:Int)
 ·have e1:inB n 1 40=decide ((n:Int)≤40):=by simp [inB,h1]
  go_enter Tryz.func140,Tryz.ntmps140
  go_wp2
  go_ret
  exact ⟨by first | rfl | (rw [e1]; rfl),hb⟩
 ·have e1:inB n 1 40=false:=by simp [inB]; omega
  go_enter Tryz.func140,Tryz.ntmps140
  go_wp2
  go_ret
  exact ⟨by first | rfl | (rw [e1]; rfl),hb⟩
theorem endIsOk_any (q s fr b:Int) (a:Option Addr) (n cap:Nat) (w:World) :
  Calls Tryz.prog 143 #[.agg #[.int .i64 q,.int .i64 s,.slice a n cap,.int .i64 fr,.int .i64 b]] w fun e w'=>e=.returned (.bool (ordB 0 fr b 10000))∧Below w.heap.size w w':=by
 go_enter Tryz.func143,Tryz.ntmps143
 go_wp2_with (go_at_call 163; refine (ordered_any _ _ _ _ _).mono ?_; rintro e w' ⟨rfl,rfl⟩)
 go_ret
 exact ⟨rfl,(Below.refl _ _).alloc (Nat.le_refl _) _⟩
set_option maxHeartbeats 1000000 in
theorem stepsAreOk_any (q s fr b:Int) (a:Option Addr) (b0 o cap:Nat) (l:List Stp) (w:World) (hl:l.length≤1048576) (hs:StepsAt w a b0 o l) :
  Calls Tryz.prog 141 #[.agg #[.int .i64 q,.int .i64 s,.slice a l.length cap,.int .i64 fr,.int .i64 b]] w fun e w'=>e=.returned (.bool (okTo l l.length))∧Below w.heap.size w w':=by
 go_enter Tryz.func141,Tryz.ntmps141
 go_wp2
 go_loopw [8] (fun v wr=>∃ k:Nat,k≤l.length∧v=.int .i64 k∧Below w.heap.size w wr∧okTo l k=true) (fun v _=>l.length - (intOf v).toNat)
 case atStart=>exact ⟨0,Nat.zero_le _,rfl,(Below.refl _ _).alloc (Nat.le_refl _) _,rfl⟩
 case round =>
  obtain ⟨k,hk,rfl,hb,hgood⟩:=hrel
  have HG:Hid (okTo l k=true):=hgood
  clear hgood
  by_cases hlt:k < l.length
  ·obtain ⟨t,htk⟩:∃ t,l[k]? = some t:=⟨l[k],List.getElem?_eq_getElem hlt⟩
   have hne:l≠[]:=by intro e; subst e; simp at hlt
   obtain rfl:=hs.here hne
   have hbw:=hs.lt hne
   obtain ⟨d0,d1,d2,d3,d4,d5,d6⟩:=(hs.below hb (fun _=>hbw)).seven htk
   have HT:Hid (l.getD k .zero=t):=by show _=_; simp [List.getD,htk]
   clear htk
   have HE:Hid (okS l k=stepB t.x t.y t.lo t.hi t.fr t.by_):=by show _=_; unfold okS; rw [HT.out]
   cases hok:stepB t.x t.y t.lo t.hi t.fr t.by_ with
   | false =>
    have G1:Hid (okTo l l.length=false):=all_not hlt (HE.out.trans hok)
    go_wp2_with (go_at_call 160; refine (stepOk_any _ _ _ _ _ _ _ _).mono ?_; rintro e w2 ⟨rfl,hb2⟩)
    go_ret
    exact ⟨by rw [G1.out]; rfl,(hb.alloc hb.size _).trans (hb2.mono (by have:=hb.size; simp; omega))⟩
   | true =>
    have G1:Hid (okTo l (k+1)=true):=by show _=_; unfold okTo; rw [all_succ]; have:=HG.out; unfold okTo at this; rw [this,HE.out,hok]; rfl
    go_wp2_with (go_at_call 160; refine (stepOk_any _ _ _ _ _ _ _ _).mono ?_; rintro e w2 ⟨rfl,hb2⟩)
    go_roundw
    case rel=>exact ⟨k+1,by omega,by go_num,(hb.alloc hb.size _).trans (hb2.mono (by have:=hb.size; simp; omega)),G1.out⟩
    case measure=>simp [intOf]; omega
  ·obtain rfl:k=l.length:=by omega
   go_wp2
   go_ret
   exact ⟨by rw [HG.out]; rfl,hb⟩
theorem held_info:(Tryz.prog.info? 63).map (fun i=>(i.zero,i.size,i.bytes))=some (some (.agg #[.string ⟨#[]⟩,.int .i64 0,.int .i64 0,.int .i64 0,.slice none 0 0,.int .i64 0,.int .i64 0,.int .i64 0,.int .i64 0,.int .i64 0,.slice none 0 0,.int .i64 0,.int .i64 0]),13,144):=by kernel_rfl
theorem held_size:(Tryz.prog.info? 63).map (·.size)=some 13:=by kernel_rfl
theorem held_one (t:Hd):((#[.string t.nm,.int .i64 t.n,.int .i64 t.p.q,.int .i64 t.p.s,.slice t.p.a t.p.l.length t.p.cap,.int .i64 t.p.fr,.int .i64 t.p.b,.int .i64 t.sn,.int .i64 t.x.q,.int .i64 t.x.s,.slice t.x.a t.x.l.length t.x.cap,.int .i64 t.x.fr,.int .i64 t.x.b]:Array Value).all (·.oneCell'))=true:=by simp [Value.oneCell']
theorem store_held {ops:Array Oper} {rest:List Oper} {op:Oper} {a:Act} {w:World} {Q:Exit→Act→World→Prop} (hgd:op.guard=none) (x y:Operand) (ho:op.op=.store 63 x y)
  (b o:Nat) (t:Hd) (hx:a.eval x=.pointer (some ⟨b,o,none⟩)) (hy:a.eval y=t.val) (ht:w.there b o 13) (h:wpList Tryz.prog ops Q rest (a.put op.dst undef) (w.setCells b o t.cl)):wpList Tryz.prog ops Q (op :: rest) a w:=
 wpList_store_mid hgd 63 x y ho b o _ hx hy ht held_size (held_one t) h
theorem heap_setCells_otherB (b:Nat):∀ (vs:List Value) (o:Nat) (w:World) (B:Nat),B≠b→(w.setCells b o vs).heap[B]? = w.heap[B]?
 | [],_,_,_,_=>rfl
 | v :: vs,o,w,B,hB=>by
  show ((w.setCell ⟨b,o,none⟩ v).setCells b (o+1) vs).heap[B]? = _
  rw [heap_setCells_otherB b vs (o+1) _ B hB]
  exact heap_setCell_other w ⟨b,o,none⟩ B v hB
structure HdPut (w:World) (lo:Nat) (t u:Hd):Prop where
 it:∃ g h,u=t.put g h∧lo < g∧lo < h∧g < w.heap.size∧h < w.heap.size∧(∀ i,i < t.p.l.length→w.there g (i * 7) 7)∧∀ i,i < t.x.l.length→w.there h (i * 7) 7
 at_:HdAt w u
theorem HdPut.blocks {w w':World} {lo:Nat} {t u:Hd} (h:HdPut w lo t u) (hs:w.heap.size≤w'.heap.size) (hb:∀ k,lo < k→k < w.heap.size→w'.heap[k]? = w.heap[k]?):HdPut w' lo t u:=by
 obtain ⟨g,k,rfl,h1,h2,h3,h4,h5,h6⟩:=h.it
 refine ⟨⟨g,k,rfl,h1,h2,by omega,by omega,fun i hi=>?_,fun i hi=>?_⟩,⟨?_,?_⟩⟩
 ·exact fun j hj=>⟨by rw [World.cell?_of_block (a:=⟨g,i * 7+j,none⟩) (hb g h1 h3)]; exact (h5 i hi j hj).1,by rw [World.frozen?_of_block (a:=⟨g,i * 7+j,none⟩) (hb g h1 h3)]; exact (h5 i hi j hj).2⟩
 ·exact fun j hj=>⟨by rw [World.cell?_of_block (a:=⟨k,i * 7+j,none⟩) (hb k h2 h4)]; exact (h6 i hi j hj).1,by rw [World.frozen?_of_block (a:=⟨k,i * 7+j,none⟩) (hb k h2 h4)]; exact (h6 i hi j hj).2⟩
 ·exact ⟨h.at_.p.here,fun hn=>Nat.lt_of_lt_of_le (h.at_.p.lt hn) hs,fun i s hi j v hv=>by rw [World.cell?_of_block (w:=w) (a:=⟨g,0+i * 7+j,none⟩) (hb g h1 h3)]; exact h.at_.p.cell i s hi j v hv⟩
 ·exact ⟨h.at_.x.here,fun hn=>Nat.lt_of_lt_of_le (h.at_.x.lt hn) hs,fun i s hi j v hv=>by rw [World.cell?_of_block (w:=w) (a:=⟨k,0+i * 7+j,none⟩) (hb k h2 h4)]; exact h.at_.x.cell i s hi j v hv⟩
structure HdsPut (w:World) (g:Nat) (ts us:List Hd):Prop where
 lt:g < w.heap.size
 len:us.length=ts.length
 there:∀ i,i < ts.length→w.there g (i * 13) 13
 at_:∀ (i:Nat) (t:Hd),ts[i]? = some t→∃ u,us[i]? = some u∧HdPut w g t u∧w.rangeAt g (i * 13) u.cl
theorem HdsPut.copied {w:World} {g:Nat} {ts us:List Hd} (h:HdsPut w g ts us):CopiedH ts us:=⟨h.len,fun i t hi=>by
 obtain ⟨u,h1,h2,_⟩:=h.at_ i t hi
 obtain ⟨a,b,rfl,_⟩:=h2.it
 exact ⟨a,b,h1⟩⟩
theorem HdsPut.rows {w:World} {g:Nat} {ts us:List Hd} (h:HdsPut w g ts us):HdsAt w (some ⟨g,0,none⟩) g 0 us:=by
 have back:∀ (i:Nat) (u:Hd),us[i]? = some u→∃ t,HdPut w g t u∧w.rangeAt g (i * 13) u.cl:=fun i u hu=>by
  have hil:i < ts.length:=by have:=(List.getElem?_eq_some_iff.1 hu).1; have:=h.len; omega
  obtain ⟨u',q1,q2,q3⟩:=h.at_ i ts[i] (List.getElem?_eq_getElem hil)
  rw [hu] at q1
  cases q1
  exact ⟨_,q2,q3⟩
 refine ⟨fun _=>rfl,fun _=>h.lt,fun i u hu=>?_,fun u hu=>?_⟩
 ·obtain ⟨_,_,q3⟩:=back i u hu
  simpa using q3
 ·obtain ⟨i,hi⟩:=List.mem_iff_getElem?.1 hu
  obtain ⟨_,q2,_⟩:=back i u hi
  exact q2.at_
theorem HdsPut.below {w w':World} {g:Nat} {ts us:List Hd} (h:HdsPut w g ts us) (hb:Below w.heap.size w w'):HdsPut w' g ts us where
 lt:=Nat.lt_of_lt_of_le h.lt hb.size
 len:=h.len
 there i hi:=there_below (h.there i hi) hb h.lt
 at_ i t hi:=by
  obtain ⟨u,q1,q2,q3⟩:=h.at_ i t hi
  exact ⟨u,q1,q2.blocks hb.size (fun k _ hk=>hb.block k hk),range_below q3 hb h.lt⟩
theorem HdsPut.set {w:World} {g:Nat} {ts us:List Hd} (h:HdsPut w g ts us) {p:Addr} (hp:p.block < g) (v:Value):HdsPut (w.setCell p v) g ts us:=by
 have hs:(w.setCell p v).heap.size=w.heap.size:=by simp [World.setCell]
 have hb:∀ B,p.block < B→(w.setCell p v).heap[B]? = w.heap[B]? := fun B hB=>heap_setCell_other w p B v (by omega)
 refine ⟨by rw [hs]; exact h.lt,h.len,fun i hi j hj=>?_,fun i t hi=>?_⟩
 ·exact ⟨by rw [World.cell?_of_block (a:=⟨g,i * 13+j,none⟩) (hb g hp)]; exact (h.there i hi j hj).1,by rw [World.frozen?_of_block (a:=⟨g,i * 13+j,none⟩) (hb g hp)]; exact (h.there i hi j hj).2⟩
 ·obtain ⟨u,q1,q2,q3⟩:=h.at_ i t hi
  exact ⟨u,q1,q2.blocks (by rw [hs]; exact Nat.le_refl _) (fun k hk _=>hb k (by omega)),fun j v' hv=>by rw [World.cell?_of_block (a:=⟨g,i * 13+j,none⟩) (hb g hp)]; exact q3 j v' hv⟩
set_option maxHeartbeats 4000000 in
set_option maxRecDepth 20000 in
theorem toHelds_any (a:Option Addr) (b o cap:Nat) (ts:List Hd) (w:World) (hl:ts.length≤1048576) (hsm:∀ t∈ts,t.p.l.length≤1048576∧t.x.l.length≤1048576) (hs:HdsAt w a b o ts) :
  Calls Tryz.prog 31 #[.slice a ts.length cap] w
   fun e w'=>∃ g us,e=.returned (.slice (some ⟨g,0,none⟩) ts.length ts.length)∧w.heap.size≤g∧HdsPut w' g ts us∧Below w.heap.size w w':=by
 obtain ⟨i0,hi,hz0,hz1,hz2⟩:=info_parts held_info
 go_enter Tryz.func31,Tryz.ntmps31
 go_wp2_with (first | (at_make; refine wpList_make_full _ rfl _ _ 32 rfl w.heap.size 63 i0 _ 13 Tryz.underlying32 hi hz0 hz1 .i64 .i64 _ _ ts.length rfl rfl rfl rfl (by rw [hz2]; omega) (by unfold maxLen; omega) (Nat.le_refl _) ?_; intro w1 hown1 hgrow1))
 obtain ⟨hlen1,hrow1⟩:=hown1
 have hb1:Below w.heap.size w w1:=(Below.refl _ _).grown hgrow1 (Nat.le_refl _) (fun k e=>by cases e)
 obtain ⟨cur,hcur,hsz⟩:∃ cur,w1.heap[w.heap.size]? = some (.cells cur 63 (0,0))∧cur.size=ts.length * 13:=by
  rcases hrow1 with ⟨h,_⟩ | ⟨g,cap,cur,h,_,hh,_,_,hs,_⟩
  ·cases h
  ·simp at h
   obtain ⟨rfl,rfl⟩:=h
   exact ⟨cur,hh,hs⟩
 clear hlen1 hrow1 hgrow1
 have hth:∀ i,i < ts.length→w1.there w.heap.size (i * 13) 13:=fun i hi=>there_of_block hcur _ _ (by omega)
 have hgr1:w.heap.size < w1.heap.size:=lt_of_block hcur
 go_loopw [4] (fun v wr=>∃ (k:Nat) (us:List Hd),k≤ts.length∧v=.int .i64 k∧Below w.heap.size w wr∧w.heap.size < wr.heap.size∧(∀ i,i < ts.length→wr.there w.heap.size (i * 13) 13)∧us.length=k∧(∀ (i:Nat) (t:Hd),i < k→ts[i]? = some t→∃ u,us[i]? = some u∧HdPut wr w.heap.size t u∧wr.rangeAt w.heap.size (i * 13) u.cl))
  (fun v _=>ts.length - (intOf v).toNat)
 case atStart=>exact ⟨0,[],Nat.zero_le _,rfl,hb1,hgr1,hth,rfl,fun i s h=>absurd h (by omega)⟩
 case round =>
  obtain ⟨k,us,hk,rfl,hb,hgr,hthr,hul,hdone⟩:=hrel
  by_cases hlt:k < ts.length
  ·obtain ⟨t,htk⟩:∃ t,ts[k]? = some t:=⟨ts[k],List.getElem?_eq_getElem hlt⟩
   have hne:ts≠[]:=by intro e; subst e; simp at hlt
   obtain rfl:=hs.here hne
   obtain ⟨c0,c1,c2,c3,c4,c5,c6,c7,c8,c9,c10,c11,c12⟩:=cl_cells ((hs.below hb).cell k t htk)
   have k0:(0:Int)≤(k:Int):=by omega
   have k1:(k:Int) < (ts.length:Int):=by omega
   have hm:=List.mem_of_getElem? htk
   have HK:Hid (ts[k]? = some t):=htk
   clear htk
   go_wp2_with fail
   refine (toHeld_more t _ (hsm t hm).1 (hsm t hm).2 ((hs.each t hm).below hb)).mono ?_
   rintro e w2 ⟨g2,h2,rfl,hg2,hgh2,hh2,hs2,hb2,hta2,htb2⟩
   have hth2:w2.there w.heap.size (k * 13) 13:=there_below (hthr k hlt) hb2 hgr
   have HT:Hid (w2.there w.heap.size (k * 13) 13):=hth2
   clear c0 c1 c2 c3 c4 c5 c6 c7 c8 c9 c10 c11 c12
   go_wp2_with (refine store_held rfl (.tmp 21) (.tmp 20) rfl w.heap.size (k * 13) (t.put g2 h2) rfl rfl hth2 ?_; clear hth2)
   go_roundw
   case rel =>
    have hob:∀ B,B≠w.heap.size→(w2.setCells w.heap.size (k * 13) (t.put g2 h2).cl).heap[B]? = w2.heap[B]? := fun B hB=>heap_setCells_otherB w.heap.size _ _ w2 B hB
    have hsz2:(w2.setCells w.heap.size (k * 13) (t.put g2 h2).cl).heap.size=w2.heap.size:=size_setCells _ _ _ _
    refine ⟨k+1,us ++ [t.put g2 h2],by omega,by go_num,below_setCells (Nat.le_refl _) _ _ _ _ (hb.trans (hb2.mono (by have:=hb.size; omega))),?_,?_,by simp; omega,?_⟩
    ·rw [hsz2]; have:=hb2.size; omega
    ·intro i hi
     exact World.there_setCells (there_below (hthr i hi) hb2 hgr) _ _ _
    ·intro i s hi hs'
     by_cases hik:i=k
     ·subst hik
      obtain rfl:t=s:=by rw [HK.out] at hs'; simpa using hs'
      have P2:HdPut w2 w.heap.size t (t.put g2 h2):=⟨⟨g2,h2,rfl,by omega,by omega,by omega,hh2,hta2,htb2⟩,hs2⟩
      exact ⟨_,by rw [List.getElem?_append_right (by omega),hul]; simp,P2.blocks (by rw [hsz2]; exact Nat.le_refl _) (fun B hB _=>hob B (by omega)),World.rangeAt_setCells_same _ _ _ _ HT.out⟩
     ·obtain ⟨u,q1,q2,q3⟩:=hdone i s (by omega) hs'
      exact ⟨u,by rw [List.getElem?_append_left (by omega)]; exact q1,(q2.blocks hb2.size (fun B _ hB=>hb2.block B hB)).blocks (by rw [hsz2]; exact Nat.le_refl _) (fun B hB _=>hob B (by omega)),World.rangeAt_setCells_apart (range_below q3 hb2 hgr) _ _ _ (by right; left; simp; omega)⟩
   case measure=>simp [intOf]; omega
  ·have hkl:k=ts.length:=by omega
   subst hkl
   go_wp2
   go_ret
   exact ⟨w.heap.size,us,rfl,Nat.le_refl _,⟨hgr,hul,hthr,fun i t hi=>hdone i t (List.getElem?_eq_some_iff.1 hi).1 hi⟩,hb⟩
def hdCells (us:List Hd):List Value:=us.flatMap Hd.cl
theorem cl_length (t:Hd):t.cl.length=13:=rfl
theorem hdCells_cons (t:Hd) (l:List Hd):hdCells (t :: l)=t.cl ++ hdCells l:=by simp [hdCells]
theorem hdCells_length (l:List Hd):(hdCells l).length=l.length * 13:=by
 induction l with
 | nil=>rfl
 | cons t l ih=>rw [hdCells_cons,List.length_append,ih,cl_length]; simp; omega
theorem hdCells_append (l m:List Hd):hdCells (l ++ m)=hdCells l ++ hdCells m:=by simp [hdCells]
theorem hdCells_at:∀ (l:List Hd) (i:Nat) (t:Hd) (j:Nat),l[i]? = some t→j < 13→(hdCells l)[i * 13+j]? = t.cl[j]?
 | [],i,t,j,h,_=>by simp at h
 | y :: ys,0,t,j,h,hj=>by
  simp at h
  subst h
  rw [hdCells_cons,List.getElem?_append_left (by rw [cl_length]; omega)]
  simp
 | y :: ys,i+1,t,j,h,hj=>by
  rw [hdCells_cons,List.getElem?_append_right (by rw [cl_length]; omega)]
  have ih:=hdCells_at ys i t j (by simpa using h) hj
  rw [← ih,cl_length]
  congr 1
  omega
theorem hdCells_put:∀ (l:List Hd) (i j:Nat) (t t':Hd) (u:Value),l[i]? = some t→j < 13→t'.cl=t.cl.set j u→(hdCells l).set (i * 13+j) u=hdCells (l.set i t')
 | [],i,_,_,_,_,h,_,_=>by simp at h
 | y :: ys,0,j,t,t',u,h,hj,he=>by
  simp at h
  subst h
  rw [List.set_cons_zero,hdCells_cons,hdCells_cons,he,Nat.zero_mul,Nat.zero_add,List.set_append_left _ _ (by rw [cl_length]; omega)]
 | y :: ys,i+1,j,t,t',u,h,hj,he=>by
  have ih:=hdCells_put ys i j t t' u (by simpa using h) hj he
  rw [List.set_cons_succ,hdCells_cons,hdCells_cons,← ih,List.set_append_right _ _ (by rw [cl_length]; omega)]
  congr 2
  rw [cl_length]
  omega
theorem hdCells_one (l:List Hd):∀ u∈hdCells l,u.oneCell' = true:=by
 intro u hu
 simp only [hdCells,List.mem_flatMap] at hu
 obtain ⟨t,_,ht⟩:=hu
 simp only [Hd.cl,List.mem_cons,List.not_mem_nil,or_false] at ht
 rcases ht with rfl | rfl | rfl | rfl | rfl | rfl | rfl | rfl | rfl | rfl | rfl | rfl | rfl <;> rfl
abbrev Pt.sl (p:Pt):Value:=.slice p.a p.l.length p.cap
def Hd.blks (t:Hd):List Nat:=t.p.sl.ownBlock.toList ++ t.x.sl.ownBlock.toList
abbrev PtOwn (W:World) (base:Nat) (p:Pt):Prop:=W.ownsRow base 98 7 p.sl p.l.length (stepCells p.l)
def HdApart (t u:Hd):Prop:=∀ k∈t.blks,k ∉ u.blks
theorem HdApart.symm {t u:Hd} (h:HdApart t u):HdApart u t:=fun k hk hk'=>h k hk' hk
structure BkOwn (W:World) (base:Nat) (v:Value) (us:List Hd):Prop where
 row:W.ownsRow base 63 13 v us.length (hdCells us)
 each:∀ u∈us,PtOwn W base u.p∧PtOwn W base u.x
 inn:∀ u∈us,∀ k,u.p.sl.ownBlock=some k→u.x.sl.ownBlock≠some k
 two:us.Pairwise HdApart
theorem rows_two {W:World} {b b' e e' s s' n n':Nat} {v v':Value} {xs xs':List Value} (h:W.ownsRow b e s v n xs) (h':W.ownsRow b' e' s' v' n' xs') (hne:e≠e'):∀ k,v.ownBlock=some k→v'.ownBlock≠some k:=by
 intro k hk hk'
 rcases h.2 with ⟨rfl,_⟩ | ⟨g,cap,cur,rfl,_,hh,_⟩
 ·simp [Value.ownBlock] at hk
 ·rcases h'.2 with ⟨rfl,_⟩ | ⟨g',cap',cur',rfl,_,hh',_⟩
  ·simp [Value.ownBlock] at hk'
  ·simp [Value.ownBlock] at hk hk'
   subst hk hk'
   rw [hh] at hh'
   simp at hh'
   exact hne hh'.2
structure Spared (S:List Nat) (w w':World):Prop where
 os:w'.os=w.os
 tape:w'.tape=w.tape
 output:w'.output=w.output
 size:w.heap.size≤w'.heap.size
 block:∀ k,k < w.heap.size→k ∉ S→w'.heap[k]? = w.heap[k]?
theorem Spared.refl (S:List Nat) (w:World):Spared S w w:=⟨rfl,rfl,rfl,Nat.le_refl _,fun _ _ _=>rfl⟩
theorem Spared.trans {S:List Nat} {a b c:World} (h:Spared S a b) (k:Spared S b c):Spared S a c:=
 ⟨k.os.trans h.os,k.tape.trans h.tape,k.output.trans h.output,Nat.le_trans h.size k.size,fun i hi hS=>(k.block i (Nat.lt_of_lt_of_le hi h.size) hS).trans (h.block i hi hS)⟩
theorem Spared.mono {S S':List Nat} {w w':World} (h:Spared S w w') (hS:∀ k∈S,k∈S'):Spared S' w w':=⟨h.os,h.tape,h.output,h.size,fun k hk hn=>h.block k hk (fun e=>hn (hS k e))⟩
theorem Spared.below {S:List Nat} {w w':World} (h:Below w.heap.size w w'):Spared S w w':=⟨h.os,h.tape,h.output,h.size,fun k hk _=>h.block k hk⟩
theorem Spared.grown {S:List Nat} {w w':World} {row:Option Nat} (h:w.grownBy w' row) (hr:∀ k,row=some k→k∈S):Spared S w w':=⟨h.os,h.tape,h.output,h.size,fun k hk hn=>h.block k hk (fun e=>hn (hr k e.symm))⟩
theorem Spared.toBelow {S:List Nat} {B:Nat} {a w w':World} (h:Spared S w w') (h0:Below B a w) (hB:B≤w.heap.size) (hS:∀ k∈S,B≤k):Below B a w':=
 h0.trans ⟨h.os,h.tape,h.output,h.size,fun k hk=>h.block k (by omega) (fun e=>by have:=hS k e; omega)⟩
theorem Spared.owns {S:List Nat} {w w':World} {base e size n:Nat} {v:Value} {xs:List Value} (h:Spared S w w') (ho:w.ownsRow base e size v n xs) (hn:∀ k,v.ownBlock=some k→k ∉ S):w'.ownsRow base e size v n xs:=
 ⟨ho.1,ho.2.imp id fun ⟨g,cap,cur,h1,h2,h3,h4⟩=>⟨g,cap,cur,h1,h2,(h.block g (lt_of_block h3) (hn g (by rw [h1]; rfl))).trans h3,h4⟩⟩
def bkBlks (v:Value) (us:List Hd):List Nat:=v.ownBlock.toList ++ us.flatMap Hd.blks
theorem BkOwn.spared {W W':World} {base:Nat} {v:Value} {us:List Hd} {S:List Nat} (h:BkOwn W base v us) (hs:Spared S W W') (hn:∀ k∈bkBlks v us,k ∉ S):BkOwn W' base v us where
 row:=hs.owns h.row (fun k hk=>hn k (by simp [bkBlks,hk]))
 each u hu:=⟨hs.owns (h.each u hu).1 (fun k hk=>hn k (by simp only [bkBlks,List.mem_append,List.mem_flatMap]; exact Or.inr ⟨u,hu,by simp [Hd.blks,hk]⟩)),hs.owns (h.each u hu).2 (fun k hk=>hn k (by simp only [bkBlks,List.mem_append,List.mem_flatMap]; exact Or.inr ⟨u,hu,by simp [Hd.blks,hk]⟩))⟩
 inn:=h.inn
 two:=h.two
theorem BkOwn.below {W W':World} {base:Nat} {v:Value} {us:List Hd} (h:BkOwn W base v us) (hb:Below W.heap.size W W'):BkOwn W' base v us:=
 ⟨owns_below h.row hb,fun u hu=>⟨owns_below (h.each u hu).1 hb,owns_below (h.each u hu).2 hb⟩,h.inn,h.two⟩
theorem BkOwn.lt {W:World} {base:Nat} {v:Value} {us:List Hd} (h:BkOwn W base v us):∀ k∈bkBlks v us,base≤k∧k < W.heap.size:=by
 intro k hk
 simp only [bkBlks,List.mem_append,List.mem_flatMap,Option.mem_toList] at hk
 rcases hk with hk | ⟨u,hu,hk⟩
 ·exact h.row.lt k hk
 ·simp only [Hd.blks,List.mem_append,Option.mem_toList] at hk
  rcases hk with hk | hk
  ·exact (h.each u hu).1.lt k hk
  ·exact (h.each u hu).2.lt k hk
def Pt.at0 (p:Pt):Pt:=⟨p.q,p.s,p.fr,p.b,p.a,p.sl.ownBlock.getD 0,0,p.cap,p.l⟩
def Hd.at0 (t:Hd):Hd:=⟨t.nm,t.n,t.p.at0,t.sn,t.x.at0⟩
theorem at0_cl (t:Hd):t.at0.cl=t.cl:=rfl
theorem at0_keys (us:List Hd):(us.map Hd.at0).map Hd.key=us.map Hd.key:=by rw [List.map_map]; rfl
theorem PtOwn.at_ {W:World} {base:Nat} {p:Pt} (h:PtOwn W base p):PtAt W p.at0:=by
 rcases h.2 with ⟨h1,h0⟩ | ⟨g,cap,cur,h1,_,hh,_⟩
 ·have hl:p.l=[]:=List.eq_nil_of_length_eq_zero h0
  exact ⟨fun h=>absurd hl h,fun h=>absurd hl h,fun i t hi=>by rw [show p.at0.l=p.l from rfl,hl] at hi; simp at hi⟩
 ·have h2:=h
  unfold PtOwn at h2
  have e:p.a=some ⟨g,0,none⟩:=congrArg (fun v=>match v with | Value.slice a _ _=>a | _=>none) h1
  have e1:p.at0.b0=g:=by show p.sl.ownBlock.getD 0=g; rw [h1]; rfl
  rw [h1] at h2
  show StepsAt W p.a p.at0.b0 0 p.l
  rw [e,e1]
  exact steps_owned h2
theorem BkOwn.at_ {W:World} {base:Nat} {v:Value} {us:List Hd} (h:BkOwn W base v us):∃ a g cap,v=.slice a us.length cap∧HdsAt W a g 0 (us.map Hd.at0):=by
 have hback:∀ t∈us.map Hd.at0,HdAt W t:=fun t ht=>by
  obtain ⟨u,hu,rfl⟩:=List.mem_map.1 ht
  exact ⟨(h.each u hu).1.at_,(h.each u hu).2.at_⟩
 rcases h.row.2 with ⟨rfl,h0⟩ | ⟨g,cap,cur,rfl,_,hh,_⟩
 ·have hn:us=[]:=List.eq_nil_of_length_eq_zero (by omega)
  subst hn
  exact ⟨none,0,0,rfl,⟨fun h=>absurd rfl h,fun h=>absurd rfl h,fun i t hi=>by simp at hi,hback⟩⟩
 ·refine ⟨some ⟨g,0,none⟩,g,cap,rfl,⟨fun _=>rfl,fun _=>lt_of_block hh,fun i t hi j v hv=>?_,hback⟩⟩
  rw [List.getElem?_map] at hi
  obtain ⟨u,hu,rfl⟩:=Option.map_eq_some_iff.1 hi
  have hil:=(List.getElem?_eq_some_iff.1 hu).1
  have hj:j < 13:=by have:=(List.getElem?_eq_some_iff.1 hv).1; rwa [cl_length] at this
  have hc:=(h.row.cellAt (i * 13+j) (by omega)).trans (hdCells_at us i u j hu hj)
  rw [show (0+i * 13+j)=i * 13+j by omega,hc,← hv,at0_cl]
def markPt (k:Int) (p:Pt):Pt:={ p with q:=k,s:=k+1,l:=markL (k+1+1) p.l.length,fr:=k+1+1+((p.l.length * 7:Nat):Int),b:=k+1+1+((p.l.length * 7:Nat):Int)+1 }
def ptSz (p:Pt):Nat:=4+p.l.length * 7
def hdSz (t:Hd):Nat:=3+ptSz t.p+ptSz t.x
def markHd (k:Int) (t:Hd):Hd:=⟨mtOf k,k+1,markPt (k+1+1) t.p,k+1+1+(ptSz t.p:Int),markPt (k+1+1+(ptSz t.p:Int)+1) t.x⟩
def totH:List Hd→Nat
 | []=>0
 | t :: ts=>hdSz t+totH ts
def markHds (k:Int):List Hd→List Hd
 | []=>[]
 | t :: ts=>markHd k t :: markHds (k+(hdSz t:Int)) ts
theorem markHds_length:∀ (us:List Hd) (k:Int),(markHds k us).length=us.length
 | [],_=>rfl
 | t :: ts,k=>by simp [markHds,markHds_length ts]
theorem totH_append (l m:List Hd):totH (l ++ m)=totH l+totH m:=by
 induction l with
 | nil=>simp [totH]
 | cons t l ih=>simp [totH,ih]; omega
theorem totH_take {us:List Hd} {i:Nat} {u:Hd} (h:us[i]? = some u):totH (us.take (i+1))=totH (us.take i)+hdSz u:=by
 rw [List.take_add_one,h,totH_append]; simp [totH]
theorem totH_take_le (us:List Hd) (i:Nat):totH (us.take i)≤totH us:=by
 have:=totH_append (us.take i) (us.drop i)
 rw [List.take_append_drop] at this
 omega
theorem markHds_get:∀ (us:List Hd) (k:Int) (i:Nat) (u:Hd),us[i]? = some u→(markHds k us)[i]? = some (markHd (k+(totH (us.take i):Int)) u)
 | [],_,i,_,h=>by simp at h
 | t :: ts,k,0,u,h=>by simp at h; subst h; simp [markHds,totH]
 | t :: ts,k,i+1,u,h=>by
  have ih:=markHds_get ts (k+(hdSz t:Int)) i u (by simpa using h)
  simp only [markHds,List.getElem?_cons_succ,List.take_succ_cons,totH]
  rw [ih]
  congr 2
  omega
def mkTo (k:Int) (us:List Hd) (i:Nat):List Hd:=(markHds k us).take i ++ us.drop i
theorem mkTo_zero (k:Int) (us:List Hd):mkTo k us 0=us:=by simp [mkTo]
theorem mkTo_all (k:Int) (us:List Hd):mkTo k us us.length=markHds k us:=by
 unfold mkTo
 rw [← markHds_length us k,List.take_length,markHds_length,List.drop_length,List.append_nil]
theorem mkTo_length (k:Int) (us:List Hd) {i:Nat} (h:i≤us.length):(mkTo k us i).length=us.length:=by simp [mkTo,markHds_length]; omega
theorem mkTo_now (k:Int) {us:List Hd} {i:Nat} {u:Hd} (h:us[i]? = some u):(mkTo k us i)[i]? = some u:=by
 have hl:=(List.getElem?_eq_some_iff.1 h).1
 unfold mkTo
 rw [List.getElem?_append_right (by simp [markHds_length]; omega),List.length_take,markHds_length,List.getElem?_drop,show i+(i - min i us.length)=i by omega]
 exact h
theorem mkTo_succ (k:Int) {us:List Hd} {i:Nat} {u:Hd} (h:us[i]? = some u):mkTo k us (i+1)=(mkTo k us i).set i (markHd (k+(totH (us.take i):Int)) u):=by
 have hl:=(List.getElem?_eq_some_iff.1 h).1
 unfold mkTo
 rw [List.set_append_right _ _ (by simp [markHds_length]; omega),List.length_take,markHds_length,show i - min i us.length=0 by omega,List.take_add_one,markHds_get us k i u h,List.append_assoc]
 congr 1
 rw [List.drop_eq_getElem_cons hl,List.set_cons_zero]
 rfl
theorem ownBlock_len (a:Option Addr) (n m c c':Nat):(Value.slice a n c).ownBlock=(Value.slice a m c').ownBlock:=by cases a <;> rfl
theorem markPt_sl (k:Int) (p:Pt):(markPt k p).sl.ownBlock=p.sl.ownBlock:=ownBlock_len _ _ _ _ _
theorem markHd_blks (k:Int) (t:Hd):(markHd k t).blks=t.blks:=by unfold Hd.blks; rw [show (markHd k t).p.sl.ownBlock=t.p.sl.ownBlock from markPt_sl _ _,show (markHd k t).x.sl.ownBlock=t.x.sl.ownBlock from markPt_sl _ _]
theorem markHds_blks:∀ (us:List Hd) (k:Int),(markHds k us).flatMap Hd.blks=us.flatMap Hd.blks
 | [],_=>rfl
 | t :: ts,k=>by simp only [markHds,List.flatMap_cons]; rw [markHd_blks,markHds_blks ts]
structure Cbx (W:World) (B:Nat) (vs:Array Value):Prop where
 it:∃ T,W.heap[B]? = some (.cells vs T (0,0))
section
variable {W W':World} {B:Nat} {vs:Array Value}
theorem Cbx.lt (h:Cbx W B vs):B < W.heap.size:=by
 obtain ⟨T,h⟩:=h.it
 exact lt_of_block h
theorem Cbx.keep (h:Cbx W B vs) (hb:Below W.heap.size W W'):Cbx W' B vs:=by
 have hl:=h.lt
 obtain ⟨T,h⟩:=h.it
 exact ⟨T,(hb.block _ hl).trans h⟩
theorem Cbx.spared {S:List Nat} (h:Cbx W B vs) (hs:Spared S W W') (hn:B ∉ S):Cbx W' B vs:=by
 have hl:=h.lt
 obtain ⟨T,h⟩:=h.it
 exact ⟨T,(hs.block _ hl hn).trans h⟩
theorem Cbx.new (w:World) (vs:Array Value) (T:TypeId):Cbx (w.alloc (.cells vs T)) w.heap.size vs:=⟨T,heap_alloc_new w _⟩
theorem Cbx.c (h:Cbx W B vs) (j:Nat):W.cell? ⟨B,j,none⟩=vs[j]? := by
 obtain ⟨T,h⟩:=h.it
 simp [World.cell?,h]
theorem Cbx.f (h:Cbx W B vs) (j:Nat):W.frozen? ⟨B,j,none⟩=false:=by
 obtain ⟨T,h⟩:=h.it
 simp [World.frozen?,h]
end
theorem nin_range {g hi k:Nat} (h:k < g∨hi≤k):k ∉ List.range' g (hi - g):=by rw [List.mem_range'_1]; omega
theorem range_ge {g n B:Nat} (h:B≤g):∀ k∈List.range' g n,B≤k:=fun k hk=>by rw [List.mem_range'_1] at hk; omega
theorem row_at {W:World} {base:Nat} {q s fr b:Int} {a:Option Addr} {c:Nat} {l:List Stp} (h:W.ownsRow base 98 7 (.slice a l.length c) l.length (stepCells l)):PtAt W ⟨q,s,fr,b,a,(Value.slice a l.length c).ownBlock.getD 0,0,c,l⟩:=
 PtOwn.at_ (p:=⟨q,s,fr,b,a,0,0,c,l⟩) h
structure Bk where
 la:Int
 a:Option Addr
 b:Nat
 o:Nat
 cap:Nat
 ts:List Hd
abbrev Bk.val (t:Bk):Value:=.agg #[.int .i64 t.la,.slice t.a t.ts.length t.cap]
abbrev BkAt (w:World) (t:Bk):Prop:=HdsAt w t.a t.b t.o t.ts
theorem szBook_any (t:Bk) (left:Int) (w:World) (hl:t.ts.length≤maxLen) (ht:∀ u∈t.ts,u.nm.size≤maxLen∧u.p.l.length≤maxLen∧u.x.l.length≤maxLen) (h0 : -1≤left) (h1:left≤1048576) (hs:BkAt w t) :
  Calls Tryz.prog 5 #[t.val,.int .i64 left] w fun e w'=>e=.returned (.int .i64 (leftHs left t.ts))∧Below w.heap.size w w':=by
 have K0:=bel1 (w:=w) (.cells #[.int .i64 t.la,.slice t.a t.ts.length t.cap] 24)
 have hr : -1≤leftHs left t.ts∧leftHs left t.ts≤1048576:=by
  unfold leftHs
  have:=leftB_left left t.ts.length h0 h1
  exact foldH_range _ _ this.1 this.2
 go_enter Tryz.func5,Tryz.ntmps5
 go_wp2_with fail
 refine (szHelds_any t.a t.b t.o t.cap t.ts left _ hl ht h0 h1 (hs.below K0)).mono ?_
 rintro e w1 ⟨rfl,hb1⟩
 generalize hx:leftHs left t.ts=x at *
 by_cases h2:x < 0
 ·have e1:x = -1:=by omega
  have E1:Hid (x = -1):=e1
  clear e1
  go_wp2
  go_ret
  exact ⟨by rw [hx,E1.out]; rfl,K0.trans (hb1.mono K0.size)⟩
 ·go_wp2
  go_ret
  exact ⟨by rw [hx]; rfl,K0.trans (hb1.mono K0.size)⟩
set_option maxHeartbeats 1000000 in
theorem toBook_any (t:Bk) (w:World) (hl:t.ts.length≤1048576) (hsm:∀ u∈t.ts,u.p.l.length≤1048576∧u.x.l.length≤1048576) (hs:BkAt w t) :
  Calls Tryz.prog 8 #[t.val] w fun e w'=>∃ g us,e=.returned (.agg #[.int .i64 t.la,.slice (some ⟨g,0,none⟩) t.ts.length t.ts.length])∧w.heap.size≤g∧HdsPut w' g t.ts us∧Below w.heap.size w w':=by
 have B0:=bel3 (w:=w) (.cells #[.int .i64 t.la,.slice t.a t.ts.length t.cap] 24) (.cells #[.int .i64 0,.slice none 0 0] 34) (.cells #[.int .i64 t.la,.slice none 0 0] 34)
 go_enter Tryz.func8,Tryz.ntmps8
 go_wp2_with fail
 refine (toHelds_any t.a t.b t.o t.cap t.ts _ hl hsm (hs.below B0)).mono ?_
 rintro e w1 ⟨g,us,rfl,hg,hP,hb1⟩
 obtain ⟨hc1,hf1⟩:=old_cells hb1
 have r1:∀ j,w1.cell? ⟨w.heap.size+1,j,none⟩=_:=fun j=>hc1 (w.heap.size+1) j (by simp)
 have r2:∀ j,w1.cell? ⟨w.heap.size+1+1,j,none⟩=_:=fun j=>hc1 (w.heap.size+1+1) j (by simp)
 have f1:∀ j,w1.frozen? ⟨w.heap.size+1,j,none⟩=_:=fun j=>hf1 (w.heap.size+1) j (by simp)
 have f2:∀ j,w1.frozen? ⟨w.heap.size+1+1,j,none⟩=_:=fun j=>hf1 (w.heap.size+1+1) j (by simp)
 have B1:=B0.trans (hb1.mono B0.size)
 simp at hg
 clear hb1 hc1 hf1 B0
 go_wp2
 refine bodyPost_ret (v:=.agg #[.int .i64 t.la,.slice (some ⟨g,0,none⟩) t.ts.length t.ts.length]) (by simp [results,Tryz.results8,go_sem, *]) rfl ⟨g,us,rfl,by omega,?_,?_⟩
 ·repeat (refine HdsPut.set ?_ (by simp; omega) _)
  exact hP
 ·repeat (refine Below.setCell ?_ (by simp <;> omega) _)
  exact B1
theorem eqBook_same (la:Int) (a a':Option Addr) (b o cap b' o' cap':Nat) (us vs:List Hd) (w:World) (hl:us.length≤1048576) (hk:us.map Hd.key=vs.map Hd.key) (hsm:∀ t∈us,t.p.l.length≤1048576∧t.x.l.length≤1048576) (hs:HdsAt w a b o us) (hs':HdsAt w a' b' o' vs) :
  Calls Tryz.prog 11 #[.agg #[.int .i64 la,.slice a us.length cap],.agg #[.int .i64 la,.slice a' us.length cap']] w fun e w'=>e=.returned (.bool true)∧Below w.heap.size w w':=by
 have K0:=bel2 (w:=w) (.cells #[.int .i64 la,.slice a us.length cap] 34) (.cells #[.int .i64 la,.slice a' us.length cap'] 34)
 go_enter Tryz.func11,Tryz.ntmps11
 go_wp2_with fail
 refine (eqHelds_same a a' b o cap b' o' cap' us vs _ hl hk hsm (hs.below K0) (hs'.below K0)).mono ?_
 rintro e w1 ⟨rfl,hb1⟩
 go_wp2
 go_ret
 exact ⟨rfl,K0.trans (hb1.mono K0.size)⟩
structure PtPut (W:World) (g n:Nat):Prop where
 lt:g < W.heap.size
 there:∀ i,i < n→W.there g (i * 7) 7
theorem PtPut.below {W W':World} {g n:Nat} (h:PtPut W g n) (hb:Below W.heap.size W W'):PtPut W' g n:=⟨Nat.lt_of_lt_of_le h.lt hb.size,fun i hi=>there_below (h.there i hi) hb h.lt⟩
theorem PtPut.spared {W W':World} {g n:Nat} {S:List Nat} (h:PtPut W g n) (hs:Spared S W W') (hn:g ∉ S):PtPut W' g n:=by
 have hb:=hs.block g h.lt hn
 exact ⟨Nat.lt_of_lt_of_le h.lt hs.size,fun i hi j hj=>⟨by rw [World.cell?_of_block (a:=⟨g,i * 7+j,none⟩) hb]; exact (h.there i hi j hj).1,by rw [World.frozen?_of_block (a:=⟨g,i * 7+j,none⟩) hb]; exact (h.there i hi j hj).2⟩⟩
end Go.Proofs.YtgjleeamhkolhaaGreatDoor

namespace Go.Proofs.YtgjleeamhkolhaaGreatDoor
open Go.ChangeShapes Go.WideShapes Go.ChangeAt Go.RowKit
section
variable {H:Type} {enc:TypeId × Value→H} {w:World} {base:Nat} {spare:Nat→Bool} {held:Bool}
theorem list13 {α:Type} {l:List α} (h:l.length=13):∃ a b c d e f g i j k m n o,l=[a,b,c,d,e,f,g,i,j,k,m,n,o]:=by
 match l,h with
 | [a,b,c,d,e,f,g,i,j,k,m,n,o],_=>exact ⟨a,b,c,d,e,f,g,i,j,k,m,n,o,rfl⟩
theorem cells_held:Tryz.prog.cellsOf 90=13:=by kernel_rfl
theorem cells_helds:Tryz.prog.cellsOf 22=1:=by kernel_rfl
theorem cells_book:Tryz.prog.cellsOf 24=2:=by kernel_rfl
theorem cells_strB:Tryz.prog.cellsOf 9=1:=by kernel_rfl
end
end Go.Proofs.YtgjleeamhkolhaaGreatDoor
