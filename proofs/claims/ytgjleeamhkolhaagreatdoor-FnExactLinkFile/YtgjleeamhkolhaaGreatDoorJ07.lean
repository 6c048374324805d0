/- Joined texts: LawSpec, LawImpl, Meth, SpanWin, WalkData. -/
import Derived.Maps.AppendAt
import Derived.Test.YtgjleeamhkolhaaGreatDoorSpec
import Derived.Test.YtgjleeamhkolhaaGreatDoorJ01
namespace Go.Proofs.YtgjleeamhkolhaaGreatDoor
open Go.RowKit
theorem low_any (q s fr b:Int) (a:Option Addr) (b0 o cap:Nat) (l:List Stp) (k:Nat) (w:World) (hl:l.length≤1048576) (hs:StepsAt w a b0 o l) :
  Calls Tryz.prog 105 #[.agg #[.int .i64 q,.int .i64 s,.slice a l.length cap,.int .i64 fr,.int .i64 b],.int .i64 (k:Int)] w fun e w'=>e=.returned (.int .i64 (lowB fr l k))∧Below w.heap.size w w':=by
 have hb:=(Below.refl w.heap.size w).alloc (Nat.le_refl _) (.cells #[.int .i64 q,.int .i64 s,.slice a l.length cap,.int .i64 fr,.int .i64 b] 38)
 by_cases hlt:k < l.length
 ·obtain ⟨t,htk⟩:∃ t,l[k]? = some t:=⟨l[k],List.getElem?_eq_getElem hlt⟩
  have hne:l≠[]:=by intro e; subst e; simp at hlt
  obtain rfl:=hs.here hne
  have hbw:=hs.lt hne
  obtain ⟨_,_,_,_,d4,_,_⟩:=(hs.alloc (.cells #[.int .i64 q,.int .i64 s,.slice (some ⟨b0,o,none⟩) l.length cap,.int .i64 fr,.int .i64 b] 38)).seven htk
  have HE:Hid (lowB fr l k=t.fr):=by show _=_; unfold lowB; rw [if_pos hlt]; simp [List.getD,htk]
  clear htk
  go_enter Tryz.func105,Tryz.ntmps105
  go_wp2
  go_ret
  exact ⟨by rw [HE.out]; rfl,hb⟩
 ·have HE:Hid (lowB fr l k=fr):=by show _=_; unfold lowB; rw [if_neg hlt]
  go_enter Tryz.func105,Tryz.ntmps105
  go_wp2
  go_ret
  exact ⟨by rw [HE.out]; rfl,hb⟩
theorem high_any (q s fr b:Int) (a:Option Addr) (b0 o cap:Nat) (l:List Stp) (k:Nat) (w:World) (hl:l.length≤1048576) (hs:StepsAt w a b0 o l) :
  Calls Tryz.prog 106 #[.agg #[.int .i64 q,.int .i64 s,.slice a l.length cap,.int .i64 fr,.int .i64 b],.int .i64 (k:Int)] w fun e w'=>e=.returned (.int .i64 (highB b l k))∧Below w.heap.size w w':=by
 have hb:=(Below.refl w.heap.size w).alloc (Nat.le_refl _) (.cells #[.int .i64 q,.int .i64 s,.slice a l.length cap,.int .i64 fr,.int .i64 b] 38)
 by_cases hlt:k < l.length
 ·obtain ⟨t,htk⟩:∃ t,l[k]? = some t:=⟨l[k],List.getElem?_eq_getElem hlt⟩
  have hne:l≠[]:=by intro e; subst e; simp at hlt
  obtain rfl:=hs.here hne
  have hbw:=hs.lt hne
  obtain ⟨_,_,_,_,_,d5,_⟩:=(hs.alloc (.cells #[.int .i64 q,.int .i64 s,.slice (some ⟨b0,o,none⟩) l.length cap,.int .i64 fr,.int .i64 b] 38)).seven htk
  have HE:Hid (highB b l k=t.by_):=by show _=_; unfold highB; rw [if_pos hlt]; simp [List.getD,htk]
  clear htk
  go_enter Tryz.func106,Tryz.ntmps106
  go_wp2
  go_ret
  exact ⟨by rw [HE.out]; rfl,hb⟩
 ·have HE:Hid (highB b l k=b):=by show _=_; unfold highB; rw [if_neg hlt]
  go_enter Tryz.func106,Tryz.ntmps106
  go_wp2
  go_ret
  exact ⟨by rw [HE.out]; rfl,hb⟩
theorem most_any (q s fr b:Int) (a:Option Addr) (b0 o cap:Nat) (l:List Stp) (k:Nat) (w:World) (hl:l.length≤1048576) (hs:StepsAt w a b0 o l) (hlt:k < l.length) :
  Calls Tryz.prog 108 #[.agg #[.int .i64 q,.int .i64 s,.slice a l.length cap,.int .i64 fr,.int .i64 b],.int .i64 (k:Int)] w fun e w'=>e=.returned (.int .i64 (mostB s l k))∧Below w.heap.size w w':=by
 have hb:=(Below.refl w.heap.size w).alloc (Nat.le_refl _) (.cells #[.int .i64 q,.int .i64 s,.slice a l.length cap,.int .i64 fr,.int .i64 b] 38)
 obtain ⟨t,htk⟩:∃ t,l[k]? = some t:=⟨l[k],List.getElem?_eq_getElem hlt⟩
 have hne:l≠[]:=by intro e; subst e; simp at hlt
 obtain rfl:=hs.here hne
 have hbw:=hs.lt hne
 obtain ⟨_,_,_,_,_,_,d6⟩:=(hs.alloc (.cells #[.int .i64 q,.int .i64 s,.slice (some ⟨b0,o,none⟩) l.length cap,.int .i64 fr,.int .i64 b] 38)).seven htk
 have HE:Hid (mostB s l k=if t.ho then 10000 else s):=by show _=_; unfold mostB; simp [List.getD,htk]
 clear htk
 cases hho:t.ho with
 | true =>
  have HF:Hid (mostB s l k=10000):=by show _=_; rw [HE.out,hho]; rfl
  rw [hho] at d6
  go_enter Tryz.func108,Tryz.ntmps108
  go_wp2
  go_ret
  exact ⟨by rw [HF.out]; rfl,hb⟩
 | false =>
  have HF:Hid (mostB s l k=s):=by show _=_; rw [HE.out,hho]; rfl
  rw [hho] at d6
  go_enter Tryz.func108,Tryz.ntmps108
  go_wp2
  go_ret
  exact ⟨by rw [HF.out]; rfl,hb⟩
set_option maxHeartbeats 1000000 in
theorem stay_any (x y lo hi fr b q s:Int) (ho:Bool) (w:World) :
  Calls Tryz.prog 145 #[.agg #[.int .i64 x,.int .i64 y,.int .i64 lo,.int .i64 hi,.int .i64 fr,.int .i64 b,.bool ho],.agg #[.int .i64 q,.int .i64 s]] w
   fun e w'=>e=.returned (.tuple #[.int .i64 q,.int .i64 (if ho then 10000 else s)])∧Below w.heap.size w w':=by
 have hb:∀ c1 c2:Array Value,Below w.heap.size w ((w.alloc (.cells c1 98)).alloc (.cells c2 35)):=fun c1 c2=>((Below.refl w.heap.size w).alloc (Nat.le_refl _) _).alloc (by simp) _
 cases ho with
 | true =>
  go_enter Tryz.func145,Tryz.ntmps145
  go_wp2
  go_ret2
  exact ⟨rfl,hb _ _⟩
 | false =>
  go_enter Tryz.func145,Tryz.ntmps145
  go_wp2
  go_quiet (fail)
  go_wp2
  go_ret2
  exact ⟨rfl,(hb _ _).trans ⟨rfl,rfl,rfl,Nat.le_refl _,fun _ _=>rfl⟩⟩
set_option maxHeartbeats 1000000 in
theorem windowS_any (x y lo hi fr b:Int) (ho:Bool) (w:World) :
  Calls Tryz.prog 217 #[.agg #[.int .i64 x,.int .i64 y,.int .i64 lo,.int .i64 hi,.int .i64 fr,.int .i64 b,.bool ho]] w
   fun e w'=>e=.returned (.tuple #[.int .i64 fr,.int .i64 b])∧Below w.heap.size w w':=by
 have hb:∀ c1:Array Value,Below w.heap.size w (w.alloc (.cells c1 98)):=fun c1=>(Below.refl w.heap.size w).alloc (Nat.le_refl _) _
 go_enter Tryz.func217,Tryz.ntmps217
 go_wp2
 go_quiet (fail)
 go_wp2
 go_ret2
 exact ⟨rfl,(hb _).trans ⟨rfl,rfl,rfl,Nat.le_refl _,fun _ _=>rfl⟩⟩
set_option maxHeartbeats 1000000 in
theorem windowE_any (fr b:Int) (w:World) :
  Calls Tryz.prog 236 #[.agg #[.int .i64 fr,.int .i64 b]] w
   fun e w'=>e=.returned (.tuple #[.int .i64 fr,.int .i64 b])∧Below w.heap.size w w':=by
 have hb:∀ c1:Array Value,Below w.heap.size w (w.alloc (.cells c1 235)):=fun c1=>(Below.refl w.heap.size w).alloc (Nat.le_refl _) _
 go_enter Tryz.func236,Tryz.ntmps236
 go_wp2
 go_quiet (fail)
 go_wp2
 go_ret2
 exact ⟨rfl,(hb _).trans ⟨rfl,rfl,rfl,Nat.le_refl _,fun _ _=>rfl⟩⟩
theorem bound_info:(Tryz.prog.info? 210).map (fun i=>(i.zero,i.size,i.bytes))=some (some .nilIface,1,16):=by kernel_rfl
abbrev stepV (s:Stp):Value:=.iface 98 s.val
def bndTo (l:List Stp) (k:Nat):List Value:=(List.range k).map fun i=>stepV (l.getD i .zero)
theorem bndTo_succ (l:List Stp) (k:Nat):bndTo l (k+1)=bndTo l k ++ [stepV (l.getD k .zero)]:=by simp [bndTo,List.range_succ]
theorem bndTo_length (l:List Stp) (k:Nat):(bndTo l k).length=k:=by simp [bndTo]
theorem owns_from {w:World} {base e size n:Nat} {v:Value} {xs:List Value} (h:w.ownsRow base e size v n xs):∀ k,v.ownBlock=some k→base≤k:=by
 intro k hk
 rcases h.2 with ⟨rfl,_⟩ | ⟨g,cap,cur,rfl,hg,_⟩
 ·simp [Value.ownBlock] at hk
 ·simp [Value.ownBlock] at hk; omega
theorem owns_mono {w:World} {base base' e size n:Nat} {v:Value} {xs:List Value} (h:w.ownsRow base e size v n xs) (hb:base'≤base):w.ownsRow base' e size v n xs:=
 ⟨h.1,h.2.imp id fun ⟨g,cap,cur,h1,h2,h3⟩=>⟨g,cap,cur,h1,Nat.le_trans hb h2,h3⟩⟩
set_option maxHeartbeats 2000000 in
theorem bounds_any (q s fr b:Int) (a:Option Addr) (b0 o cap:Nat) (l:List Stp) (w:World) (hl:l.length≤1048576) (hs:StepsAt w a b0 o l) :
  Calls Tryz.prog 144 #[.agg #[.int .i64 q,.int .i64 s,.slice a l.length cap,.int .i64 fr,.int .i64 b]] w
   fun e w'=>∃ v,e=.returned v∧w'.ownsRow w.heap.size 210 1 v (l.length+1) (bndTo l l.length ++ [.iface 235 (.agg #[.int .i64 fr,.int .i64 b])])∧Below w.heap.size w w':=by
 obtain ⟨i0,hi,hz0,hz1,hz2⟩:=info_parts bound_info
 go_enter Tryz.func144,Tryz.ntmps144
 go_wp2
 go_loopw [3,9] (fun u v wr=>∃ k:Nat,k≤l.length∧v=.int .i64 k∧BoxP w wr q s fr b (.slice a l.length cap)∧wr.ownsRow (w.heap.size+1) 210 1 u k (bndTo l k)) (fun _ v _=>l.length - (intOf v).toNat)
 case atStart=>exact ⟨0,Nat.zero_le _,rfl,BoxP.new w q s fr b _ _,World.ownsRow_nil _ _ _ _⟩
 case round =>
  obtain ⟨k,hk,rfl,hB,hown⟩:=hrel
  by_cases hlt:k < l.length
  ·obtain ⟨t,htk⟩:∃ t,l[k]? = some t:=⟨l[k],List.getElem?_eq_getElem hlt⟩
   have hne:l≠[]:=by intro e; subst e; simp at hlt
   obtain rfl:=hs.here hne
   obtain ⟨d0,d1,d2,d3,d4,d5,d6⟩:=(hs.below hB.old hs.lt).seven htk
   have HT:Hid (l.getD k .zero=t):=by show _=_; simp [List.getD,htk]
   clear htk
   have hz:=hB.lt
   have c1:∀ (j:Nat) (u:Value),[stepV t][j]? = some u→((wr.alloc (.cells #[.int .i64 t.x,.int .i64 t.y,.int .i64 t.lo,.int .i64 t.hi,.int .i64 t.fr,.int .i64 t.by_,.bool t.ho] 98)).alloc (.cells #[stepV t] 210)).cell? ((⟨wr.heap.size+1,0,none⟩:Addr).add j)=some u:=by
    intro j u hj
    match j,hj with
    | 0,hj=>simp at hj; subst hj; simp [Addr.add,go_sem]
   have HC:Hid (∀ (j:Nat) (u:Value),[stepV t][j]? = some u→((wr.alloc (.cells #[.int .i64 t.x,.int .i64 t.y,.int .i64 t.lo,.int .i64 t.hi,.int .i64 t.fr,.int .i64 t.by_,.bool t.ho] 98)).alloc (.cells #[stepV t] 210)).cell? ((⟨wr.heap.size+1,0,none⟩:Addr).add j)=some u):=c1
   clear c1
   go_wp2_with (at_builtin; (refine wpList_append_own _ rfl _ _ 207 rfl (w.heap.size+1) 210 i0 .nilIface 1 16 Tryz.underlying207 hi hz0 hz1 hz2 rfl (by decide) _ _ _ rfl ((hown.alloc _).alloc _) ⟨wr.heap.size+1,0,none⟩ 1 1 [stepV t] rfl rfl HC.out (by simp [Value.oneCell']) (by unfold maxLen; omega) (by omega) (by simp; omega) ?_); intro v' w1 hown' hgrow _)
   have hbel:Below (w.heap.size+1) wr w1:=(((Below.refl (w.heap.size+1) wr).alloc (by omega) _).alloc (by simp; omega) _).grown hgrow (by simp; omega) (owns_from hown)
   refine ⟨⟨k+1,by omega,by go_num,hB.keep hbel,?_⟩,by simp [intOf]; omega⟩
   rw [bndTo_succ,HT.out]
   exact hown'
  ·obtain rfl:k=l.length:=by omega
   have hz:=hB.lt
   have p3:=hB.p3
   have p4:=hB.p4
   go_wp2_with (at_builtin; (refine wpList_append_own _ rfl _ _ 207 rfl (w.heap.size+1) 210 i0 .nilIface 1 16 Tryz.underlying207 hi hz0 hz1 hz2 rfl (by decide) _ _ _ rfl (hown.alloc _) ⟨wr.heap.size,0,none⟩ 1 1 [.iface 235 (.agg #[.int .i64 fr,.int .i64 b])] rfl rfl (cell_one_new _ _ _) (by simp [Value.oneCell']) (by unfold maxLen; omega) (by omega) (by simp; omega) ?_); intro v' w1 hown' hgrow _)
   have hbel:Below (w.heap.size+1) wr w1:=((Below.refl (w.heap.size+1) wr).alloc (by omega) _).grown hgrow (by simp; omega) (owns_from hown)
   go_ret
   exact ⟨_,rfl,owns_mono hown' (by omega),(hB.keep hbel).old⟩
theorem method_step (nm:String) (h:Tryz.prog.underlying 209=some (.interface #[(nm,212)])) (t:Stp) (w:World):(method 395 98 t.val nm).run Tryz.prog w=.ok (217,t.val) w:=by
 rw [Tryz.underlying209] at h
 simp only [Option.some.injEq,TypeDesc.interface.injEq,Array.mk.injEq,List.cons.injEq,Prod.mk.injEq,and_true] at h
 subst h
 kernel_rfl
theorem method_end (nm:String) (h:Tryz.prog.underlying 209=some (.interface #[(nm,212)])) (fr b:Int) (w:World):(method 395 235 (.agg #[.int .i64 fr,.int .i64 b]) nm).run Tryz.prog w=.ok (236,.agg #[.int .i64 fr,.int .i64 b]) w:=by
 rw [Tryz.underlying209] at h
 simp only [Option.some.injEq,TypeDesc.interface.injEq,Array.mk.injEq,List.cons.injEq,Prod.mk.injEq,and_true] at h
 subst h
 kernel_rfl
def winL (fr b:Int) (l:List Stp) (k:Nat):List (Int × Int):=(List.range k).map fun i=>(lowB fr l i,highB b l i)
theorem winL_succ (fr b:Int) (l:List Stp) (k:Nat):winL fr b l (k+1)=winL fr b l k ++ [(lowB fr l k,highB b l k)]:=by simp [winL,List.range_succ]
theorem span_info2:(Tryz.prog.info? 152).map (fun i=>(i.zero,i.size,i.bytes))=some (some (.agg #[.int .i64 0,.int .i64 0]),2,16):=by kernel_rfl
set_option maxRecDepth 20000 in
set_option maxHeartbeats 2000000 in
theorem winds_any (q s fr b:Int) (a:Option Addr) (b0 o cap:Nat) (l:List Stp) (w:World) (hl:l.length≤1048576) (hs:StepsAt w a b0 o l) :
  Calls Tryz.prog 122 #[.agg #[.int .i64 q,.int .i64 s,.slice a l.length cap,.int .i64 fr,.int .i64 b]] w
   fun e w'=>∃ v,e=.returned v∧w'.ownsRow w.heap.size 152 2 v (l.length+1) (spanCells (winL fr b l (l.length+1)))∧Below w.heap.size w w':=by
 obtain ⟨i0,hi,hz0,hz1,hz2⟩:=info_parts span_info2
 go_enter Tryz.func122,Tryz.ntmps122
 go_wp2_with fail
 refine (bounds_any _ _ _ _ _ b0 o _ _ _ hl (hs.alloc _)).mono ?_
 rintro e w1 ⟨v,rfl,hown,hb1⟩
 have hB1:=(BoxP.new w q s fr b (.slice a l.length cap) 38).below hb1
 obtain ⟨g,vcap,rfl,_,hg⟩:=owns_some hown (by omega)
 have HX:Hid (∀ j,j < l.length+1→w1.cell? ⟨g,j,none⟩=(bndTo l l.length ++ [Value.iface 235 (.agg #[.int .i64 fr,.int .i64 b])])[j]?):=fun j hj=>hown.cellAt j (by omega)
 clear hown hb1
 go_wp2
 go_loopw [3,11] (fun v u wr=>∃ k:Nat,k≤l.length+1∧u=.int .i64 k∧Below w1.heap.size w1 wr∧wr.ownsRow w1.heap.size 152 2 v k (spanCells (winL fr b l k))) (fun _ u _=>l.length+1 - (intOf u).toNat)
 case atStart=>exact ⟨0,Nat.zero_le _,rfl,Below.refl _ _,World.ownsRow_nil _ _ _ _⟩
 case round =>
  obtain ⟨k,hk,rfl,hb,hown⟩:=hrel
  by_cases hlt:k < l.length+1
  ·have hcell:wr.cell? ⟨g,k,none⟩=_:=(hb.cell (p:=⟨g,k,none⟩) hg).trans (HX.out k hlt)
   have hz:=hb.size
   by_cases hkl:k < l.length
   ·have e1:(bndTo l l.length ++ [Value.iface 235 (.agg #[.int .i64 fr,.int .i64 b])])[k]? = some (stepV (l.getD k .zero)):=by
     rw [List.getElem?_append_left (by rw [bndTo_length]; exact hkl)]
     simp [bndTo,hkl]
    rw [e1] at hcell
    obtain ⟨t,ht⟩:∃ t,l.getD k .zero=t:=⟨_,rfl⟩
    rw [ht] at hcell
    clear e1
    have hm:=method_step _ Tryz.underlying209 t
    have HE:Hid (winL fr b l (k+1)=winL fr b l k ++ [(t.fr,t.by_)]):=by show _=_; rw [winL_succ]; unfold lowB highB; rw [if_pos hkl,if_pos hkl,ht]
    clear ht
    go_wp2_with (first
     | (go_at_call 217; refine (windowS_any _ _ _ _ _ _ _ _).mono ?_; rintro e w2 ⟨rfl,hb2⟩)
     | (at_builtin; (refine wpList_append_own _ rfl _ _ 119 rfl w1.heap.size 152 i0 (.agg #[.int .i64 0,.int .i64 0]) 2 16 Tryz.underlying119 hi hz0 hz1 hz2 rfl (by decide) _ _ _ rfl ((owns_below hown hb2).alloc _) ⟨w2.heap.size,0,none⟩ 1 1 [.int .i64 t.fr,.int .i64 t.by_] rfl rfl (two_new _ _ _ _) (by simp [Value.oneCell']) (by unfold maxLen; omega) (by omega) (by have:=hb2.size; simp; omega) ?_); intro v' w3 hown' hgrow _))
    have hbel:Below w1.heap.size wr w3:=((hb2.mono hz).alloc (by have:=hb2.size; omega) _).grown hgrow (by have:=hb2.size; simp; omega) (owns_base hown)
    go_roundw
    case rel =>
     refine ⟨k+1,by omega,by go_num,hb.trans hbel,?_⟩
     rw [HE.out,spanCells_snoc]
     exact hown'
    case measure=>simp [intOf]; omega
   ·have e1:(bndTo l l.length ++ [Value.iface 235 (.agg #[.int .i64 fr,.int .i64 b])])[k]? = some (Value.iface 235 (.agg #[.int .i64 fr,.int .i64 b])):=by
     rw [List.getElem?_append_right (by rw [bndTo_length]; omega),bndTo_length,show k - l.length=0 by omega]
     rfl
    rw [e1] at hcell
    clear e1
    have hm:=method_end _ Tryz.underlying209 fr b
    have HE:Hid (winL fr b l (k+1)=winL fr b l k ++ [(fr,b)]):=by show _=_; rw [winL_succ]; unfold lowB highB; rw [if_neg hkl,if_neg hkl]
    go_wp2_with (first
     | (go_at_call 236; refine (windowE_any _ _ _).mono ?_; rintro e w2 ⟨rfl,hb2⟩)
     | (at_builtin; (refine wpList_append_own _ rfl _ _ 119 rfl w1.heap.size 152 i0 (.agg #[.int .i64 0,.int .i64 0]) 2 16 Tryz.underlying119 hi hz0 hz1 hz2 rfl (by decide) _ _ _ rfl ((owns_below hown hb2).alloc _) ⟨w2.heap.size,0,none⟩ 1 1 [.int .i64 fr,.int .i64 b] rfl rfl (two_new _ _ _ _) (by simp [Value.oneCell']) (by unfold maxLen; omega) (by omega) (by have:=hb2.size; simp; omega) ?_); intro v' w3 hown' hgrow _))
    have hbel:Below w1.heap.size wr w3:=((hb2.mono hz).alloc (by have:=hb2.size; omega) _).grown hgrow (by have:=hb2.size; simp; omega) (owns_base hown)
    go_roundw
    case rel =>
     refine ⟨k+1,by omega,by go_num,hb.trans hbel,?_⟩
     rw [HE.out,spanCells_snoc]
     exact hown'
    case measure=>simp [intOf]; omega
  ·obtain rfl:k=l.length+1:=by omega
   have hz:=hB1.old.size
   go_wp2
   go_ret
   exact ⟨_,rfl,⟨hown.1,hown.2.imp id fun ⟨g,cap,cur,h1,h2,h3⟩=>⟨g,cap,cur,h1,by omega,h3⟩⟩,hB1.old.trans (hb.mono hB1.old.size)⟩
def tightB (d:Bool) (q mo:Int) (e lf:Int × Int):(Int × Int) × (Int × Int):=
 if d then (e,(mxB lf.1 (e.1+q),mnB lf.2 (e.2+mo))) else ((mxB e.1 (lf.1 - mo),mnB e.2 (lf.2 - q)),lf)
def stayMost (s:Int) (t:Stp):Int:=if t.ho then 10000 else s
def tightR (d:Bool) (q s:Int) (r:List (Int × Int)) (x:Nat × Stp):(Int × Int) × (Int × Int):=tightB d q (stayMost s x.2) (r.getD x.1 (0,0)) (r.getD (x.1+1) (0,0))
def rowStep (d:Bool) (q s:Int) (r:List (Int × Int)) (x:Nat × Stp):List (Int × Int):=(r.set x.1 (tightR d q s r x).1).set (x.1+1) (tightR d q s r x).2
def okStep (d:Bool) (q s:Int) (r:List (Int × Int)) (x:Nat × Stp):Bool:=someB (tightR d q s r x).1 && someB (tightR d q s r x).2
def foldW (d:Bool) (q s:Int) {l:List Stp} (r:List (Int × Int)) (pre:List (El l)):List (Int × Int) × Bool:=pre.foldl (fun a x=>(rowStep d q s a.1 x.1,a.2 && okStep d q s a.1 x.1)) (r,true)
theorem foldW_snoc (d:Bool) (q s:Int) {l:List Stp} (r:List (Int × Int)) (pre:List (El l)) (x:El l) :
  foldW d q s r (pre ++ [x])=(rowStep d q s (foldW d q s r pre).1 x.1,(foldW d q s r pre).2 && okStep d q s (foldW d q s r pre).1 x.1):=by
 simp [foldW,List.foldl_append]
theorem fold_off (d:Bool) (q s:Int) {l:List Stp}:∀ (post:List (El l)) (a:List (Int × Int) × Bool),a.2=false→(post.foldl (fun a x=>(rowStep d q s a.1 x.1,a.2 && okStep d q s a.1 x.1)) a).2=false
 | [],_,h=>h
 | x :: r,a,h=>fold_off d q s r _ (by show (a.2 && _)=false; rw [h]; rfl)
theorem foldW_off (d:Bool) (q s:Int) {l:List Stp} (r:List (Int × Int)) (pre post:List (El l)) (h:(foldW d q s r pre).2=false):(foldW d q s r (pre ++ post)).2=false:=by
 unfold foldW
 rw [List.foldl_append]
 exact fold_off d q s post _ h
structure GoodRow (n:Nat) (r:List (Int × Int)):Prop where
 len:r.length=n+1
 at_:∀ (i:Nat) (x:Int × Int),r[i]? = some x→0≤x.1∧x.1≤x.2∧x.2≤10000
theorem GoodRow.getD {n:Nat} {r:List (Int × Int)} (h:GoodRow n r) {i:Nat} (hi:i≤n):r[i]? = some (r.getD i (0,0)):=by
 rw [List.getD_eq_getElem?_getD,List.getElem?_eq_getElem (by rw [h.len]; omega)]; rfl
theorem GoodRow.tight {n:Nat} {r:List (Int × Int)} (h:GoodRow n r) {d:Bool} {q s:Int} {x:Nat × Stp} (hx:x.1 < n) (hok:okStep d q s r x=true) :
  (0≤(tightR d q s r x).1.1∧(tightR d q s r x).1.1≤(tightR d q s r x).1.2∧(tightR d q s r x).1.2≤10000)∧(0≤(tightR d q s r x).2.1∧(tightR d q s r x).2.1≤(tightR d q s r x).2.2∧(tightR d q s r x).2.2≤10000):=by
 have h1:=h.at_ _ _ (h.getD (show x.1≤n by omega))
 have h2:=h.at_ _ _ (h.getD (show x.1+1≤n by omega))
 unfold okStep at hok
 simp only [someB,Bool.and_eq_true,decide_eq_true_eq] at hok
 unfold tightR tightB at *
 cases d with
 | true =>
  simp only [if_true] at *
  have m1:=mxB_le (r.getD (x.1+1) (0,0)).1 ((r.getD x.1 (0,0)).1+q)
  have m2:=mnB_le (r.getD (x.1+1) (0,0)).2 ((r.getD x.1 (0,0)).2+stayMost s x.2)
  omega
 | false =>
  simp only [Bool.false_eq_true,if_false] at *
  have m1:=mxB_le (r.getD x.1 (0,0)).1 ((r.getD (x.1+1) (0,0)).1 - stayMost s x.2)
  have m2:=mnB_le (r.getD x.1 (0,0)).2 ((r.getD (x.1+1) (0,0)).2 - q)
  omega
theorem GoodRow.step {n:Nat} {r:List (Int × Int)} (h:GoodRow n r) {d:Bool} {q s:Int} {x:Nat × Stp} (hx:x.1 < n) (hok:okStep d q s r x=true):GoodRow n (rowStep d q s r x) where
 len:=by unfold rowStep; rw [List.length_set,List.length_set]; exact h.len
 at_ i y hy:=by
  obtain ⟨t1,t2⟩:=h.tight hx hok
  unfold rowStep at hy
  by_cases e2:x.1+1=i
  ·subst e2
   rw [List.getElem?_set_self (by rw [List.length_set,h.len]; omega)] at hy
   cases hy
   exact t2
  ·rw [List.getElem?_set_ne e2] at hy
   by_cases e1:x.1=i
   ·subst e1
    rw [List.getElem?_set_self (by rw [h.len]; omega)] at hy
    cases hy
    exact t1
   ·rw [List.getElem?_set_ne e1] at hy
    exact h.at_ i y hy
def mixL (q s fr b:Int) (l:List Stp) (k:Nat):List (Int × Int):=(List.range (l.length+1)).map fun i=>if i≤k then fwdS q s fr b l i else (lowB fr l i,highB b l i)
theorem mixL_length (q s fr b:Int) (l:List Stp) (k:Nat):(mixL q s fr b l k).length=l.length+1:=by simp [mixL]
theorem mixL_get (q s fr b:Int) (l:List Stp) (k i:Nat) (h:i < l.length+1):(mixL q s fr b l k)[i]? = some (if i≤k then fwdS q s fr b l i else (lowB fr l i,highB b l i)):=by simp [mixL,h]
theorem mixL_zero (q s fr b:Int) (l:List Stp):mixL q s fr b l 0=winL fr b l (l.length+1):=by
 unfold mixL winL
 apply List.map_congr_left
 intro i _
 by_cases h:i≤0
 ·have e:i=0:=by omega
  subst e
  rfl
 ·rw [if_neg h]
theorem mixL_all (q s fr b:Int) (l:List Stp):mixL q s fr b l l.length=fwdL q s fr b l (l.length+1):=by
 unfold mixL fwdL
 apply List.map_congr_left
 intro i hi
 rw [if_pos (by have:=List.mem_range.1 hi; omega)]
theorem getD_of {r:List (Int × Int)} {i:Nat} {x:Int × Int} (h:r[i]? = some x):r.getD i (0,0)=x:=by rw [List.getD_eq_getElem?_getD,h]; rfl
theorem stayMost_at {s:Int} {l:List Stp} {k:Nat} {t:Stp} (h:l[k]? = some t):stayMost s t=mostB s l k:=by
 unfold stayMost mostB; rw [show l.getD k .zero=t by rw [List.getD_eq_getElem?_getD,h]; rfl]
theorem mixL_tight {q s fr b:Int} {l:List Stp} {k:Nat} {t:Stp} (h:l[k]? = some t):tightR true q s (mixL q s fr b l k) (k,t)=(fwdS q s fr b l k,fwdS q s fr b l (k+1)):=by
 have hk:k < l.length:=(List.getElem?_eq_some_iff.1 h).1
 have e1:=getD_of (mixL_get q s fr b l k k (by omega))
 have e2:=getD_of (mixL_get q s fr b l k (k+1) (by omega))
 rw [if_pos (Nat.le_refl _)] at e1
 rw [if_neg (by omega)] at e2
 unfold tightR tightB
 simp only [if_true]
 rw [e1,e2,stayMost_at h]
 rfl
theorem mixL_step {q s fr b:Int} {l:List Stp} {k:Nat} {t:Stp} (h:l[k]? = some t):rowStep true q s (mixL q s fr b l k) (k,t)=mixL q s fr b l (k+1):=by
 have hk:k < l.length:=(List.getElem?_eq_some_iff.1 h).1
 unfold rowStep
 rw [mixL_tight h]
 apply List.ext_getElem?
 intro i
 by_cases hi:i < l.length+1
 ·rw [mixL_get _ _ _ _ _ _ _ hi]
  by_cases e2:k+1=i
  ·subst e2
   rw [List.getElem?_set_self (by rw [List.length_set,mixL_length]; omega),if_pos (Nat.le_refl _)]
  ·rw [List.getElem?_set_ne e2]
   by_cases e1:k=i
   ·subst e1
    rw [List.getElem?_set_self (by rw [mixL_length]; omega),if_pos (by omega)]
   ·rw [List.getElem?_set_ne e1,mixL_get _ _ _ _ _ _ _ hi]
    by_cases h3:i≤k
    ·rw [if_pos h3,if_pos (by omega)]
    ·rw [if_neg h3,if_neg (by omega)]
 ·rw [List.getElem?_eq_none (by simp [mixL_length]; omega),List.getElem?_eq_none (by rw [mixL_length]; omega)]
theorem first_some {q s fr b:Int} {l:List Stp} (hp:pathB q s fr b l=true) (i:Nat):0≤lowB fr l i∧lowB fr l i≤highB b l i∧highB b l i≤10000:=by
 simp only [pathB,Bool.and_eq_true,decide_eq_true_eq] at hp
 obtain ⟨⟨⟨⟨_,_⟩,h3⟩,h4⟩,h5⟩:=hp
 have h3':=(inB_iff _ _ _).1 h3
 unfold lowB highB
 by_cases hk:i < l.length
 ·rw [if_pos hk,if_pos hk]
  simp only [goodTo,List.all_eq_true,List.mem_range] at h5
  have:=(Bool.and_eq_true_iff.1 (h5 i hk)).1
  simp only [stepB,decide_eq_true_eq] at this
  omega
 ·rw [if_neg hk,if_neg hk]
  omega
theorem win_good {q s fr b:Int} {l:List Stp} (hp:pathB q s fr b l=true):GoodRow l.length (winL fr b l (l.length+1)) where
 len:=by simp [winL]
 at_ i x hx:=by
  simp only [winL,List.getElem?_map,Option.map_eq_some_iff] at hx
  obtain ⟨k,_,rfl⟩:=hx
  exact first_some hp k
theorem fwd_fold {q s fr b:Int} {l:List Stp} (hp:pathB q s fr b l=true):∀ k,k≤l.length →
  (foldW true q s (winL fr b l (l.length+1)) (allE l k)).2=fwdTo q s fr b l (k+1)∧(fwdTo q s fr b l (k+1)=true→(foldW true q s (winL fr b l (l.length+1)) (allE l k)).1=mixL q s fr b l k)
 | 0,_=>by
  refine ⟨?_,fun _=>by rw [mixL_zero]; rfl⟩
  have:=first_some hp 0
  show true=_
  simp [fwdTo,someB,fwdS]
  exact decide_eq_true this.2.1
 | k+1,hk=>by
  obtain ⟨h1,h2⟩:=fwd_fold hp k (by omega)
  obtain ⟨t,ht⟩:∃ t,l[k]? = some t:=⟨l[k],List.getElem?_eq_getElem (by omega)⟩
  rw [allE_succ ht,foldW_snoc]
  cases hf:fwdTo q s fr b l (k+1) with
  | false =>
   have e:fwdTo q s fr b l (k+1+1)=false:=by
    cases e:fwdTo q s fr b l (k+1+1) with
    | false=>rfl
    | true =>
     have:fwdTo q s fr b l (k+1)=true:=by
      simp only [fwdTo,List.all_eq_true,List.mem_range] at e ⊢
      exact fun i hi=>e i (by omega)
     rw [this] at hf
     cases hf
   rw [h1,hf,e]
   exact ⟨rfl,fun h=>by cases h⟩
  | true =>
   have hr:=h2 hf
   have hs:someB (fwdS q s fr b l k)=true:=by
    have:=fwdTo_at hf (show k < k+1 by omega)
    simpa [someB] using this
   rw [h1,hf,hr,fwdTo_succ hf]
   refine ⟨?_,fun _=>mixL_step ht⟩
   show (true && (someB (tightR true q s (mixL q s fr b l k) (k,t)).1 && someB (tightR true q s (mixL q s fr b l k) (k,t)).2))=_
   rw [mixL_tight ht,hs]; rfl
theorem back_tight {q s fr b:Int} {l:List Stp} {k m:Nat} {t:Stp} (hk:k < l.length) (hm:l.length - (k+1)=m) (h:l[m]? = some t) :
  tightR false q s (backL q s fr b l l.length k) (m,t)=(bwdS q s fr b l l.length (k+1),bwdS q s fr b l l.length k):=by
 have e1:=getD_of (backL_now q s fr b l l.length k hk)
 have e2:=getD_of (backL_next q s fr b l l.length k hk)
 rw [hm] at e1 e2
 unfold tightR tightB
 simp only [Bool.false_eq_true,if_false]
 rw [e1,e2,stayMost_at h]
 simp only [bwdS]
 rw [hm]
theorem back_fold {q s fr b:Int} {l:List Stp} (hp:pathB q s fr b l=true) (hf:fwdTo q s fr b l (l.length+1)=true):∀ k,k≤l.length →
  foldW false q s (fwdL q s fr b l (l.length+1)) (backE l k)=(backL q s fr b l l.length k,true)
 | 0,_=>by rw [backL_zero]; rfl
 | k+1,hk=>by
  have ih:=back_fold hp hf k (by omega)
  obtain ⟨m,hm⟩:∃ m,l.length - (k+1)=m:=⟨_,rfl⟩
  obtain ⟨t,ht⟩:∃ t,l[m]? = some t:=⟨l[m],List.getElem?_eq_getElem (by omega)⟩
  rw [backE_succ (show l.length - 1 - k=m by omega) ht,foldW_snoc,ih]
  have hT:=back_tight (q:=q) (s:=s) (fr:=fr) (b:=b) (show k < l.length by omega) hm ht
  have s1:=(bwd_in hp hf (k+1) (by omega)).1
  have s2:=(bwd_in hp hf k (by omega)).1
  show (((backL q s fr b l l.length k).set m (tightR false q s (backL q s fr b l l.length k) (m,t)).1).set (m+1) (tightR false q s (backL q s fr b l l.length k) (m,t)).2,true && (someB (tightR false q s (backL q s fr b l l.length k) (m,t)).1 && someB (tightR false q s (backL q s fr b l l.length k) (m,t)).2))=_
  rw [hT,backL_succ q s fr b l l.length k (by omega),hm]
  have e2:=backL_next q s fr b l l.length k (by omega)
  rw [hm] at e2
  congr 1
  ·apply List.ext_getElem?
   intro i
   by_cases e:m+1=i
   ·subst e
    rw [List.getElem?_set_self (by rw [List.length_set,backL_length]; omega),List.getElem?_set_ne (by omega),e2]
   ·rw [List.getElem?_set_ne e]
  ·simp [someB]
   exact ⟨s1,s2⟩
theorem fwd_good {q s fr b:Int} {l:List Stp} (hp:pathB q s fr b l=true) (hf:fwdTo q s fr b l (l.length+1)=true):GoodRow l.length (fwdL q s fr b l (l.length+1)) where
 len:=by simp [fwdL]
 at_ i x hx:=by
  simp only [fwdL,List.getElem?_map,Option.map_eq_some_iff] at hx
  obtain ⟨k,hk,rfl⟩:=hx
  have hk':k < l.length+1:=by
   have:=List.mem_of_getElem? hk
   simpa using this
  have h1:=fwd_range hp k
  have h2:=fwdTo_at hf hk'
  omega
end Go.Proofs.YtgjleeamhkolhaaGreatDoor
