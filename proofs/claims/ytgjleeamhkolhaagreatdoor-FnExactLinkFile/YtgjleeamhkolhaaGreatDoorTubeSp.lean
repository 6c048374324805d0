/- Joined texts: TubeSp. -/
import Derived.Test.YtgjleeamhkolhaaGreatDoorJ10
namespace Go.Proofs.YtgjleeamhkolhaaGreatDoor
open Go.RowKit
theorem span_box_apart {w:World} {base base' n n':Nat} {v v':Value} {xs xs':List Value} (h:w.ownsRow base 152 2 v n xs) (h':w.ownsRow base' 194 6 v' n' xs'):∀ k,v.ownBlock=some k→v'.ownBlock≠some k:=by
 intro k hk hk'
 rcases h.2 with ⟨rfl,_⟩ | ⟨g,cap,cur,rfl,_,hh,_⟩
 ·simp [Value.ownBlock] at hk
 rcases h'.2 with ⟨rfl,_⟩ | ⟨g',cap',cur',rfl,_,hh',_⟩
 ·simp [Value.ownBlock] at hk'
 simp [Value.ownBlock] at hk hk'
 subst hk
 subst hk'
 rw [hh] at hh'
 have:=congrArg (fun o=>match o with | some (Obj.cells _ t _)=>t | _=>0) hh'
 simp at this
structure TbS (w wr:World) (q s fr b:Int) (vp vs:Value) (F:List (Int × Int)) (v:Value) (m:List Bx):Prop where
 old:Below w.heap.size w wr
 pa:BoxP w wr q s fr b vp
 sp:wr.ownsRow (w.heap.size+1) 152 2 vs F.length (spanCells F)
 own:wr.ownsRow (w.heap.size+1) 194 6 v m.length (rowC m)
section
variable {w wr w':World} {q s fr b:Int} {vp vs v:Value} {F:List (Int × Int)} {m:List Bx}
theorem TbS.keep (h:TbS w wr q s fr b vp vs F v m) (hb:Below wr.heap.size wr w'):TbS w w' q s fr b vp vs F v m:=
 ⟨h.old.trans (hb.mono h.old.size),h.pa.below hb,owns_below h.sp hb,owns_below h.own hb⟩
theorem TbS.push {v7:Value} {t:Bx} (h:TbS w wr q s fr b vp vs F v m) (hg:wr.grownBy w' v.ownBlock) (ho:w'.ownsRow (w.heap.size+1) 194 6 v7 (m.length+1) (rowC m ++ t.cells)):TbS w w' q s fr b vp vs F v7 (m ++ [t]):=by
 have hbase:=owns_base h.own
 refine ⟨h.old.grown hg h.old.size (fun k e=>by have:=hbase k e; omega),h.pa.keep ((Below.refl _ _).grown hg h.pa.lt (fun k e=>by have:=hbase k e; omega)),?_,?_⟩
 ·refine h.sp.kept hg ?_
  cases e:vs.ownBlock with
  | none=>exact Or.inl rfl
  | some k=>exact Or.inr (fun e2=>span_box_apart h.sp h.own k e e2.symm)
 ·rw [rowC_snocF,List.length_append]
  exact ho
end
set_option maxRecDepth 20000 in
set_option maxHeartbeats 4000000 in
theorem flyTubeS_any (q s fr b:Int) (a:Option Addr) (b0 o cap:Nat) (l:List Stp) (w:World) (hl:l.length≤1048576) (hs:StepsAt w a b0 o l) :
  Calls Tryz.prog 136 #[.agg #[.int .i64 q,.int .i64 s,.slice a l.length cap,.int .i64 fr,.int .i64 b]] w
   fun e w'=>∃ v,e=.returned v∧w'.ownsRow w.heap.size 194 6 v (tubeL q s fr b l).length (rowC (tubeL q s fr b l))∧Below w.heap.size w w':=by
 obtain ⟨i0,hi,hz0,hz1,hz2⟩:=info_parts fbox_info
 have hr:=fly_range q s fr b l
 have P0:=(BoxP.new w q s fr b (.slice a l.length cap) 38).below ((Below.refl _ _).alloc (Nat.le_refl _) (.cells #[] 194))
 have E0:=owns_empty (w:=w.alloc (.cells #[.int .i64 q,.int .i64 s,.slice a l.length cap,.int .i64 fr,.int .i64 b] 38)) (base:=w.heap.size+1) (e:=194) (size:=6) (by simp)
 rw [World.size_alloc] at E0
 have B0:Below w.heap.size w ((w.alloc (.cells #[.int .i64 q,.int .i64 s,.slice a l.length cap,.int .i64 fr,.int .i64 b] 38)).alloc (.cells #[] 194)):=((Below.refl _ _).alloc (Nat.le_refl _) _).alloc (by simp) _
 go_enter Tryz.func136,Tryz.ntmps136
 go_wp2_with fail
 refine (flySpansS_any _ _ _ _ _ b0 o _ _ _ hl (hs.below B0 hs.lt)).mono ?_
 rintro e w1 ⟨vs,rfl,hsp,hb1⟩
 have P1:=P0.below hb1
 have B1:Below w.heap.size w w1:=B0.trans (hb1.mono (by simp; omega))
 have E1:=owns_below E0 hb1
 have p2:=P1.p2
 cases hf:flyB q s fr b l with
 | false =>
  have G:Hid (tubeL q s fr b l=[]):=by show _=_; unfold tubeL; rw [hf]; rfl
  go_wp2
  go_loopw [3,6] (fun v x wr=>v=.slice (some ⟨w.heap.size+1,0,none⟩) 0 0∧x=.int .i64 0∧wr=w1) (fun _ _ _=>0)
  case atStart=>exact ⟨rfl,rfl,rfl⟩
  case round =>
   obtain ⟨rfl,rfl,rfl⟩:=hrel
   go_wp2
   go_ret
   exact ⟨_,rfl,by rw [G.out]; exact ⟨E1.1,E1.2.imp id fun ⟨g,cap,cur,h1,h2,h3⟩=>⟨g,cap,cur,h1,by omega,h3⟩⟩,B1⟩
 | true =>
  have G:Hid (tubeL q s fr b l=tubeTo (flyL q s fr b l) l l.length):=by show _=_; unfold tubeL; rw [hf]; rfl
  have hF:=flyL_len hf
  have h40:=fly_len hf
  obtain ⟨g,gc,rfl,hg1,hg2⟩:=owns_some hsp (by omega)
  rw [hF]
  generalize flyL q s fr b l=F at *
  have T1:TbS w w1 q s fr b (.slice a l.length cap) (.slice (some ⟨g,0,none⟩) F.length gc) F (.slice (some ⟨w.heap.size+1,0,none⟩) 0 0) (tubeTo F l 0):=⟨B1,P1,⟨hsp.1,hsp.2.imp id fun ⟨g,cap,cur,h1,h2,h3⟩=>⟨g,cap,cur,h1,Nat.le_trans (by simp) h2,h3⟩⟩,E1⟩
  clear P0 P1 p2 hb1 B1 hsp E0 E1 B0 hg1 hg2
  go_wp2
  go_loopw [3,6] (fun v x wr=>∃ k:Nat,k≤l.length∧x=.int .i64 k∧TbS w wr q s fr b (.slice a l.length cap) (.slice (some ⟨g,0,none⟩) F.length gc) F v (tubeTo F l k)) (fun _ x _=>l.length - (intOf x).toNat)
  case atStart=>exact ⟨0,Nat.zero_le _,rfl,T1⟩
  case round =>
   clear T1
   obtain ⟨k,hk,rfl,hT⟩:=hrel
   have p2:=hT.pa.p2
   by_cases hlt:k < l.length
   ·obtain ⟨t,ht⟩:∃ t,l[k]? = some t:=⟨l[k],List.getElem?_eq_getElem hlt⟩
    have hne:l≠[]:=by intro e; subst e; simp at hlt
    obtain rfl:=hs.here hne
    obtain ⟨c0,c1,c2,c3,c4,c5,c6⟩:=(hs.below hT.old hs.lt).seven ht
    have s0:=(hT.sp.cellAt (k * 2) (by omega)).trans (spanCells_two' (F:=F) (k:=k) (by omega)).1
    have s1:=(hT.sp.cellAt ((k+1) * 2+1) (by omega)).trans (spanCells_two' (F:=F) (k:=k+1) (by omega)).2
    have hgr:=owns_lt hT.sp g rfl
    have k0:(0:Int)≤(k:Int):=by omega
    have k1:(k:Int) < (l.length:Int):=by omega
    have k2:(k:Int)+1 < (l.length:Int)+1:=by omega
    have k3:(0:Int)≤(k:Int)+1:=by omega
    have k4:(k:Int) < (l.length:Int)+1:=by omega
    have wk:IntKind.i64.wrap ((k:Int)+1)=(k:Int)+1:=by rw [IntKind.wrap_i64]; omega
    have wk2:wrap64 ((k:Int)+1)=(k:Int)+1:=by unfold wrap64; omega
    have k5:(k:Int)+1≤(l.length:Int):=by omega
    obtain ⟨hh1,hh2⟩:=hr (k+1)
    have HB:Hid (tubeTo F l (k+1)=tubeTo F l k ++ [⟨t.x,t.y,t.lo,t.hi,(F.getD k (0,0)).1,(F.getD (k+1) (0,0)).2 - 1⟩]):=by
     show _=_
     rw [tubeTo_succ]
     unfold tubeAt
     rw [List.getD_eq_getElem?_getD (l:=l),ht]
     rfl
    have hlen:=tubeTo_length F l k
    clear ht
    generalize hi1:(F.getD k (0,0)).1=in1 at *
    generalize ho1:(F.getD (k+1) (0,0)).2=out1 at *
    clear hi1 ho1
    have wr1:IntKind.i64.wrap (out1 - 1)=out1 - 1:=by rw [IntKind.wrap_i64]; omega
    go_wp2
    have T3:=((hT.keep ((Below.refl wr.heap.size wr).alloc (Nat.le_refl _) (.cells #[.int .i64 t.x,.int .i64 t.y,.int .i64 t.lo,.int .i64 t.hi,.int .i64 t.fr,.int .i64 t.by_,.bool t.ho] 98))).keep ((Below.refl _ _).alloc (Nat.le_refl _) (.cells #[.int .i64 t.x,.int .i64 t.y,.int .i64 t.lo,.int .i64 t.hi,.int .i64 in1,.int .i64 (out1 - 1)] 194))).keep ((Below.refl _ _).drew)
    have hnw:∀ (j:Nat) (u:Value),(Bx.cells ⟨t.x,t.y,t.lo,t.hi,in1,out1 - 1⟩)[j]? = some u→(((wr.alloc (.cells #[.int .i64 t.x,.int .i64 t.y,.int .i64 t.lo,.int .i64 t.hi,.int .i64 t.fr,.int .i64 t.by_,.bool t.ho] 98)).alloc (.cells #[.int .i64 t.x,.int .i64 t.y,.int .i64 t.lo,.int .i64 t.hi,.int .i64 in1,.int .i64 (out1 - 1)] 194)).drew).cell? ((⟨wr.heap.size+1,0,none⟩:Addr).add j)=some u:=by
     intro j u hj
     have:=six_newF (wr.alloc (.cells #[.int .i64 t.x,.int .i64 t.y,.int .i64 t.lo,.int .i64 t.hi,.int .i64 t.fr,.int .i64 t.by_,.bool t.ho] 98)) ⟨t.x,t.y,t.lo,t.hi,in1,out1 - 1⟩ 194 j u hj
     rw [World.size_alloc] at this
     exact this
    have hvb:=owns_lt hT.own
    have hNw:=hT.pa.lt
    have hap:=span_box_apart hT.sp hT.own g rfl
    go_region_held3 (fun w'=>w'.cell? ⟨wr.heap.size,0,none⟩=some (.int .i64 t.x)∧w'.cell? ⟨wr.heap.size,1,none⟩=some (.int .i64 t.y)∧w'.cell? ⟨wr.heap.size,2,none⟩=some (.int .i64 t.lo)∧w'.cell? ⟨wr.heap.size,3,none⟩=some (.int .i64 t.hi)∧w'.cell? ⟨g,k * 2,none⟩=some (.int .i64 in1)∧w'.cell? ⟨g,(k+1) * 2+1,none⟩=some (.int .i64 out1))
     (simp [go_sem,World.cell?_alloc_lt, *])
     (first
      | (refine wp_append_own _ (.tmp 29) (.tmp 51) 191 rfl (w.heap.size+1) 194 i0 (.agg #[.int .i64 0,.int .i64 0,.int .i64 0,.int .i64 0,.int .i64 0,.int .i64 0]) 6 48 Tryz.underlying191 hi hz0 hz1 hz2 rfl (by decide) u3 _ _ rfl T3.own ⟨wr.heap.size+1,0,none⟩ 1 1 (Bx.cells ⟨t.x,t.y,t.lo,t.hi,in1,out1 - 1⟩) rfl rfl hnw (by simp [Value.oneCell']) (by unfold maxLen; omega) (by omega) (by simp; omega) ?_; intro v7 w7 hown7 hgrow7 hnil7; have e0:∀ j,w7.cell? ⟨wr.heap.size,j,none⟩=_:=(fun j=>World.cell?_of_block (a:=⟨wr.heap.size,j,none⟩) (hgrow7.block wr.heap.size (by simp; omega) (fun e=>by have:=hvb _ e.symm; omega))); have e1:∀ j,w7.cell? ⟨g,j,none⟩=_:=(fun j=>World.cell?_of_block (a:=⟨g,j,none⟩) (hgrow7.block g (by simp; omega) (fun e=>hap e.symm)))))
    go_wp2
    go_roundw
    case rel=>exact ⟨k+1,by omega,by go_num,by rw [HB.out]; exact T3.push hgrow7 hown7⟩
    case measure=>simp [intOf]; omega
   ·obtain rfl:k=l.length:=by omega
    go_wp2
    go_ret
    obtain ⟨av,cv,rfl⟩:∃ a c,u3=.slice a (tubeTo F l l.length).length c:=by
     rcases hT.own.2 with ⟨rfl,h0⟩ | ⟨g,cap,cur,rfl,_⟩
     ·exact ⟨none,0,by rw [h0]⟩
     ·exact ⟨_,_,rfl⟩
    refine ⟨_,rfl,?_,hT.old⟩
    rw [G.out]
    exact ⟨hT.own.1,hT.own.2.imp id fun ⟨g,cap,cur,h1,h2,h3⟩=>⟨g,cap,cur,h1,by omega,h3⟩⟩
end Go.Proofs.YtgjleeamhkolhaaGreatDoor
