/- Joined texts: LkAscI. -/
import Derived.Laws.Cover1
import Derived.Test.YtgjleeamhkolhaaGreatDoorJ12
import Derived.Test.YtgjleeamhkolhaaGreatDoorJ01
namespace Go.Proofs.YtgjleeamhkolhaaGreatDoor
open Go.RowKit
theorem ascAt_n {ts:List Hd} {i:Nat} {s t:Hd} (hs:ts[i]? = some s) (ht:ts[i+1]? = some t):ascAt (ts.map nkey) (i+1)=ltN s.nm t.nm:=by
 unfold ascAt; rw [Nat.add_sub_cancel,nmAt_n hs,nmAt_n ht]; simp
theorem nameOfH_any (t:Hd) (w:World):Calls Tryz.prog 117 #[.agg #[.string t.nm,.int .i64 t.n,.int .i64 t.p.q,.int .i64 t.p.s,.slice t.p.a t.p.l.length t.p.cap,.int .i64 t.p.fr,.int .i64 t.p.b,.int .i64 t.sn,.int .i64 t.x.q,.int .i64 t.x.s,.slice t.x.a t.x.l.length t.x.cap,.int .i64 t.x.fr,.int .i64 t.x.b]] w fun e w'=>e=.returned (.string t.nm)∧Below w.heap.size w w':=by
 go_enter Tryz.func117,Tryz.ntmps117
 go_wp2
 go_ret
 exact ⟨rfl,bel1 _⟩
set_option maxHeartbeats 4000000 in
set_option maxRecDepth 20000 in
theorem ascendByH_any (a:Option Addr) (b o cap:Nat) (ts:List Hd) (w:World) (hl:ts.length≤1048576) (hs:HdsAt w a b o ts) :
  Calls Tryz.prog 116 #[.slice a ts.length cap,.func (.func 117) #[] #[]] w fun e w'=>e=.returned (.bool (ascTo (ts.map nkey) ts.length))∧Below w.heap.size w w':=by
 go_enter Tryz.func116,Tryz.ntmps116
 go_wp2
 go_loopw [5] (fun v wr=>∃ m:Nat,(m≤ts.length)∧v=.int .i64 ((m+1:Nat):Int)∧Below w.heap.size w wr∧ascTo (ts.map nkey) (m+1)=true) (fun v _=>ts.length+1 - (intOf v).toNat)
 case atStart=>exact ⟨0,Nat.zero_le _,rfl,Below.refl _ _,rfl⟩
 case round =>
  obtain ⟨m,hk,rfl,hb,hasc⟩:=hrel
  have HC:Hid (ascTo (ts.map nkey) (m+1)=true):=hasc
  clear hasc
  by_cases hlt:m+1 < ts.length
  ·obtain ⟨s,hsk⟩:∃ s,ts[m]? = some s:=⟨ts[m],List.getElem?_eq_getElem (by omega)⟩
   obtain ⟨t,htk⟩:∃ t,ts[m+1]? = some t:=⟨ts[m+1],List.getElem?_eq_getElem hlt⟩
   have hne:ts≠[]:=by intro e; subst e; simp at hlt
   obtain rfl:=hs.here hne
   have hsb:=hs.below hb
   obtain ⟨c0,c1,c2,c3,c4,c5,c6,c7,c8,c9,c10,c11,c12⟩:=cl_cells (hsb.cell _ _ htk)
   obtain ⟨d0,d1,d2,d3,d4,d5,d6,d7,d8,d9,d10,d11,d12⟩:=cl_cells (hsb.cell _ _ hsk)
   have hbx:b < wr.heap.size:=hsb.lt hne
   have HS:Hid (ts[m]? = some s):=hsk
   have HT:Hid (ts[m+1]? = some t):=htk
   have k0:(0:Int)≤(m:Int):=by omega
   have k1:(m:Int)+1 < (ts.length:Int):=by omega
   have k2:(m:Int) < (ts.length:Int):=by omega
   have k4:(0:Int)≤(m:Int)+1:=by omega
   have k5:IntKind.i64.wrap (m:Int)=(m:Int):=by rw [IntKind.wrap_i64]; omega
   have k7:m < ts.length:=by omega
   have qn:=Cls.any wr
   have q0:=Cls.cell hbx
   have C1:∀ u:Cls wr,Calls Tryz.prog 117 #[.agg #[.string t.nm,.int .i64 t.n,.int .i64 t.p.q,.int .i64 t.p.s,.slice t.p.a t.p.l.length t.p.cap,.int .i64 t.p.fr,.int .i64 t.p.b,.int .i64 t.sn,.int .i64 t.x.q,.int .i64 t.x.s,.slice t.x.a t.x.l.length t.x.cap,.int .i64 t.x.fr,.int .i64 t.x.b]] u.it fun e w'=>e=.returned (.string t.nm)∧Below u.it.heap.size u.it w':=fun u=>nameOfH_any t u.it
   have C2:∀ u:Cls wr,Calls Tryz.prog 117 #[.agg #[.string s.nm,.int .i64 s.n,.int .i64 s.p.q,.int .i64 s.p.s,.slice s.p.a s.p.l.length s.p.cap,.int .i64 s.p.fr,.int .i64 s.p.b,.int .i64 s.sn,.int .i64 s.x.q,.int .i64 s.x.s,.slice s.x.a s.x.l.length s.x.cap,.int .i64 s.x.fr,.int .i64 s.x.b]] u.it fun e w'=>e=.returned (.string s.nm)∧Below u.it.heap.size u.it w':=fun u=>nameOfH_any s u.it
   clear hsk htk
   have HL:=ltN_le t.nm s.nm
   cases h2:ltN s.nm t.nm with
   | false =>
    have H2:Hid (ascAt (ts.map nkey) (m+1)=false):=by show _=_; rw [ascAt_n HS.out HT.out,h2]
    rw [h2] at HL
    clear h2
    go_wp2
    refine wp_region_cls (by kernel_rfl) (by kernel_rfl) ?_
    repeat (go_big_quiet_step ((go_at_call 117; first | exact Calls.cls_of (C1 _) | exact Calls.cls_of (C2 _))))
    refine wpQuiet_nil ?_
    rintro _ ⟨u,rfl⟩
    clear c0 d0 c1 d1 c2 d2 c3 d3 c4 d4 c5 d5 c6 d6 c7 d7 c8 d8 c9 d9 c10 d10 c11 d11 c12 d12 q0 qn C1 C2
    go_wp2
    go_ret
    exact ⟨by rw [ascTo_not hlt H2.out]; rfl,hb.trans (u.same.mono hb.size)⟩
   | true =>
    have H2:Hid (ascAt (ts.map nkey) (m+1)=true):=by show _=_; rw [ascAt_n HS.out HT.out,h2]
    rw [h2] at HL
    clear h2
    go_wp2
    refine wp_region_cls (by kernel_rfl) (by kernel_rfl) ?_
    repeat (go_big_quiet_step ((go_at_call 117; first | exact Calls.cls_of (C1 _) | exact Calls.cls_of (C2 _))))
    refine wpQuiet_nil ?_
    rintro _ ⟨u,rfl⟩
    clear c0 d0 c1 d1 c2 d2 c3 d3 c4 d4 c5 d5 c6 d6 c7 d7 c8 d8 c9 d9 c10 d10 c11 d11 c12 d12 q0 qn C1 C2
    go_wp2
    go_roundw
    case rel=>exact ⟨m+1,by omega,by go_num,hb.trans (u.same.mono hb.size),by rw [ascTo_succ,HC.out,H2.out]; rfl⟩
    case measure=>simp [intOf]; omega
  ·have e1:ascTo (ts.map nkey) ts.length=true:=by
    rcases Nat.eq_zero_or_pos ts.length with h0 | h0
    ·rw [h0]; rfl
    ·have h1:=HC.out
     unfold ascTo at h1 ⊢
     rw [List.all_eq_true] at h1 ⊢
     exact fun x hx=>h1 x (by simp at hx ⊢; omega)
   have E1:Hid (ascTo (ts.map nkey) ts.length=true):=e1
   have hle:¬ ((m:Int)+1 < ts.length):=by omega
   clear e1
   go_wp2
   go_ret
   exact ⟨by rw [E1.out]; rfl,hb⟩
theorem inOrder_any (la:Int) (a:Option Addr) (b o cap:Nat) (ts:List Hd) (v:Bool) (w:World) (hl:ts.length≤1048576) (hs:HdsAt w a b o ts) (hv:ascTo (ts.map nkey) ts.length=v) :
  Calls Tryz.prog 92 #[.agg #[.int .i64 la,.slice a ts.length cap]] w fun e w'=>e=.returned (.bool v)∧Below w.heap.size w w':=by
 subst hv
 have B0:=bel1 (w:=w) (.cells #[.int .i64 la,.slice a ts.length cap] 34)
 go_enter Tryz.func92,Tryz.ntmps92
 go_wp2_with fail
 refine (ascendByH_any a b o cap ts _ hl (hs.below B0)).mono ?_
 rintro e w2 ⟨rfl,hb2⟩
 go_wp2
 go_ret
 exact ⟨rfl,B0.trans (hb2.mono B0.size)⟩
theorem hasRoom_any (la:Int) (a:Option Addr) (cap n:Nat) (v:Bool) (w:World) (hv:decide (n≤8)=v) :
  Calls Tryz.prog 91 #[.agg #[.int .i64 la,.slice a n cap]] w fun e w'=>e=.returned (.bool v)∧Below w.heap.size w w':=by
 have e1:v=decide ((n:Int)≤8):=by rw [← hv,Bool.eq_iff_iff]; simp; omega
 rw [e1]
 clear e1 hv
 go_enter Tryz.func91,Tryz.ntmps91
 go_wp2
 go_ret
 exact ⟨rfl,bel1 _⟩
end Go.Proofs.YtgjleeamhkolhaaGreatDoor
