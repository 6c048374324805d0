/- Joined texts: LkTubesI. -/
import Derived.Test.YtgjleeamhkolhaaGreatDoorJ12
import Derived.Test.YtgjleeamhkolhaaGreatDoorJ10
import Derived.Test.YtgjleeamhkolhaaGreatDoorJ01
namespace Go.Proofs.YtgjleeamhkolhaaGreatDoor
open Go.RowKit Go.Shelf
attribute [local go_sem] Oper.semAt_some
theorem hds_low {w:World} {a:Option Addr} {b o:Nat} {ts:List Hd} (h:HdsAt w a b o ts):∃ b',HdsAt w a b' o ts∧b' < w.heap.size+1:=by
 by_cases hn:ts=[]
 ·subst hn
  exact ⟨0,⟨fun h=>absurd rfl h,fun h=>absurd rfl h,fun i t hi=>by simp at hi,fun t ht=>by simp at ht⟩,by omega⟩
 ·exact ⟨b,h,by have:=h.lt hn; omega⟩
theorem KeepS.grown {n b:Nat} {A B:World} {r:Option Nat} (hn:n≤A.heap.size) (hg:A.grownBy B r) (hr:∀ k cs T,r=some k→A.heap[k]? = some (.cells cs T (0,0))→T≠63∧T≠38∧T≠32∧T≠199) (hb:r≠some b):KeepS n b A B:=by
 have H:∀ (k:Nat) (cs:Array Value) (T:TypeId),(T=63∨T=38∨T=32∨T=199)→A.heap[k]? = some (.cells cs T (0,0))→B.heap[k]? = some (.cells cs T (0,0)):=fun k cs T hT e =>
  (hg.block k (lt_of_block e) (fun e2=>by
   obtain ⟨h1,h2,h3,h4⟩:=hr k cs T e2.symm e
   rcases hT with h | h | h | h
   ·exact h1 h
   ·exact h2 h
   ·exact h3 h
   ·exact h4 h)).trans e
 exact ⟨hg.size,fun k cs e=>H k cs _ (.inl rfl) e,fun k cs e=>H k cs _ (.inr (.inl rfl)) e,fun k cs e=>H k cs _ (.inr (.inr (.inl rfl))) e,fun k cs e=>H k cs _ (.inr (.inr (.inr rfl))) e,fun h=>hg.block b (by omega) (fun e=>hb e.symm)⟩
theorem row_block {W:World} {base n:Nat} {v:Value} {xs:List Value} (ho:W.ownsRow base 132 2 v n xs):∀ k,v.ownBlock=some k→base≤k∧∃ cs,W.heap[k]? = some (.cells cs 132 (0,0)):=fun k hk=>by
 rcases ho.2 with ⟨rfl,_⟩ | ⟨g,cap,cur,rfl,hb,hh,_⟩
 ·simp [Value.ownBlock] at hk
 ·simp [Value.ownBlock] at hk
  subst hk
  exact ⟨hb,cur,hh⟩
abbrev TubesI (_w:World) (base B:Nat) (now:Int) (l:List NP) (W:World):Prop:=∃ (us:List Tb) (v:Value),us.map key=l.map (tkey now)∧Boxed W B 154 v∧TbsOwn W base v us
theorem ownFrom_tubes {β:Type} (w:World) (B0 base B:Nat) (now:Int) (l:β→List NP):OwnFrom B0 (fun (s:β) (W:World)=>TubesI w base B now (l s) W):=fun s X Y row h1 hg hr=>by
 obtain ⟨us,v,h2,h3,h4⟩:=h1
 exact ⟨us,v,h2,boxed_own B 154 (fun (_:Unit)=>v) () X Y row h3 hg (fun r e=>(hr r e).2),h4.kept hg (fun k cs T e hk=>by obtain ⟨_,o,ho,hc⟩:=hr k e; rw [hk] at ho; cases ho; cases hc)⟩
set_option maxRecDepth 100000 in
set_option maxHeartbeats 8000000 in
theorem tubesI_any (hI:SpansSaid) (la now:Int) (a:Option Addr) (b o ca:Nat) (ts:List Hd) (w:World) (hl:ts.length≤1048576) (hsm:∀ t∈ts,t.p.l.length≤1048576∧t.x.l.length≤1048576) (hs:HdsAt w a b o ts) :
  Calls Tryz.prog 101 #[.agg #[.int .i64 la,.slice a ts.length ca],.int .i64 now] w fun e w'=>∃ (us:List Tb) (a':Option Addr) (g c:Nat),e=.returned (.slice a' us.length c)∧us.length≤c∧us.map key=(mayL ts).map (tkey now)∧TubesAt w' a' g 0 us∧Below w.heap.size w w':=by
 obtain ⟨b,hs,hbw⟩:=hds_low hs
 obtain ⟨i0,hi,hz0,hz1,hz2⟩:=info_parts tube_info
 refine (callsIn_wide (n:=4)).1 ?_
 refine callsIn_of_wp_marks Tryz.func101 rfl trivial ?_ rfl
 simp only [Tryz.ntmps101,List.size_toArray,List.length_cons,List.length_nil,Nat.reduceAdd,Nat.reduceSub,Array.replicate_succ,Array.replicate_zero,List.push_toArray,List.append_toArray,List.nil_append,List.cons_append]
 gi_wp2_with (refine ⟨trivial,?_⟩; gi_at_call 131; refine (hs_in _ _ _ _ _).mono ?_; rintro e w' ⟨rfl,rfl⟩)
 obtain ⟨W0,hW0⟩:∃ W0,(((((w.alloc (.cells #[.int .i64 la,.slice a ts.length ca] 34)).alloc (.cells #[.int .i64 now] 3)).alloc (.cells #[.slice none 0 0] 154)).alloc (.cells #[.slice a ts.length ca] 32)).alloc (.cells #[.func (.func 132) #[] #[]] 199))=W0:=⟨_,rfl⟩
 have hB0:Below w.heap.size w W0:=by
  rw [← hW0]
  exact ((bel3 _ _ _).alloc (by simp; omega) _).alloc (by simp; omega) _
 have hsz:W0.heap.size=w.heap.size+5:=by rw [← hW0]; simp
 have bN:Boxed W0 (w.heap.size+1) 3 (.int .i64 now):=by
  rw [← hW0]
  have h:=Boxed.new (w.alloc (.cells #[.int .i64 la,.slice a ts.length ca] 34)) 3 (.int .i64 now)
  simp only [World.size_alloc] at h
  exact (((h.alloc _).alloc _).alloc _)
 have bL:Boxed W0 (w.heap.size+1+1) 154 (.slice none 0 0):=by
  rw [← hW0]
  have h:=Boxed.new ((w.alloc (.cells #[.int .i64 la,.slice a ts.length ca] 34)).alloc (.cells #[.int .i64 now] 3)) 154 (.slice none 0 0)
  simp only [World.size_alloc] at h
  exact ((h.alloc _).alloc _)
 have bA:Boxed W0 (w.heap.size+1+1+1) 32 (.slice a ts.length ca):=by
  rw [← hW0]
  have h:=Boxed.new (((w.alloc (.cells #[.int .i64 la,.slice a ts.length ca] 34)).alloc (.cells #[.int .i64 now] 3)).alloc (.cells #[.slice none 0 0] 154)) 32 (.slice a ts.length ca)
  simp only [World.size_alloc] at h
  exact (h.alloc _)
 have bB:Boxed W0 (w.heap.size+1+1+1+1) 199 (.func (.func 132) #[] #[]):=by
  rw [← hW0]
  have h:=Boxed.new ((((w.alloc (.cells #[.int .i64 la,.slice a ts.length ca] 34)).alloc (.cells #[.int .i64 now] 3)).alloc (.cells #[.slice none 0 0] 154)).alloc (.cells #[.slice a ts.length ca] 32)) 199 (.func (.func 132) #[] #[])
  simp only [World.size_alloc] at h
  exact h
 rw [hW0]
 clear hW0
 refine wpIn_rangeFunc_ownH rfl (by omega) (gf:=156) (lb:=#[.pointer (some ⟨w.heap.size+1+1+1,0,none⟩),.pointer (some ⟨w.heap.size+1+1+1+1,0,none⟩)]) rfl trivial (enters_of Tryz.func156 (by kernel_rfl) rfl)
  (hs_stops _ (by omega) (w.heap.size+1+1+1) (w.heap.size+1+1+1+1) W0.heap.size b o ca a ts hl W0 (Nat.le_refl _) bA bB (hs.below hB0) (fun _=>by omega)) KeepS.trans (KeepS.putObj (Nat.le_refl _)) (Below.refl _ _) (fun _=>rfl)
  (fun pre W=>((TubesI w (w.heap.size+1) (w.heap.size+1+1) now (pre.map vN) W∧Boxed W (w.heap.size+1) 3 (.int .i64 now))∧Below w.heap.size w W)∧W0.heap.size≤W.heap.size)
  (fun c pre W=>False)
  (OwnFrom.and (OwnFrom.and (OwnFrom.and (ownFrom_tubes _ _ _ _ _ _) (Own.from (boxed_own _ _ _) _)) (ownFrom_below (Nat.le_refl _) (by omega))) (ownFrom_size _ _))
  (fun c=>fun s A B row hh _ _=>hh)
  ⟨⟨⟨⟨[],_,rfl,bL,TbsOwn.nil _ _⟩,bN⟩,hB0⟩,Nat.le_refl _⟩
  (fun x a' W=>∃ Bp,W.heap[Bp]? = some (.cells #[.int .i64 x.1.2.q,.int .i64 x.1.2.s,.slice x.1.2.a x.1.2.l.length x.1.2.cap,.int .i64 x.1.2.fr,.int .i64 x.1.2.b] 38 (0,0))∧a' = { tmps:=#[.agg #[.int .i64 la,.slice a ts.length ca],.int .i64 now,.pointer (some ⟨w.heap.size,0,none⟩),.pointer (some ⟨w.heap.size+1,0,none⟩),.slice none 0 0,.pointer (some ⟨w.heap.size+1+1,0,none⟩),.string x.1.1,.pointer (some ⟨Bp,0,none⟩),.pointer (some ⟨w.heap.size,1,none⟩),.slice a ts.length ca,.func (.func 156) #[] #[.pointer (some ⟨w.heap.size+1+1+1,0,none⟩),.pointer (some ⟨w.heap.size+1+1+1+1,0,none⟩)],.string x.1.1,.agg #[.int .i64 x.1.2.q,.int .i64 x.1.2.s,.slice x.1.2.a x.1.2.l.length x.1.2.cap,.int .i64 x.1.2.fr,.int .i64 x.1.2.b],undef,undef,undef,undef,undef,undef,undef,undef],defers:=[] })
  (fun x a' _ X Y row hs' hg hr=>by obtain ⟨Bp,h1,h2⟩:=hs'; exact ⟨Bp,(hg.block Bp (lt_of_block h1) (fun e=>by obtain ⟨_,o,ho,hc⟩:=hr Bp e.symm; rw [h1] at ho; cases ho; cases hc)).trans h1,h2⟩)
  ?assign ?body ?done ?stop
 case assign =>
  rintro lp pre x W K ⟨⟨⟨⟨us,v,hk,bv,hO⟩,bN1⟩,hB1⟩,hW1⟩ hK
  gi_wp2
  exact hK _ _ ((KeepsOthers.alloc _ _).from _) (KeepS.of hW1 (bel1 _)) ⟨⟨⟨⟨us,v,hk,bv.alloc _,hO.below (bel1 _)⟩,bN1.alloc _⟩,hB1.alloc hB1.size _⟩,by rw [World.size_alloc]; omega⟩ ⟨W.heap.size,heap_alloc_new _ _,rfl⟩
 case body =>
  rintro lp pre x a' W hlp hlr ⟨⟨⟨⟨us,v,hk,bv,hO⟩,bN1⟩,hB1⟩,hW1⟩ ⟨Bp,hP,rfl⟩ hlt
  obtain ⟨t,ht,hxt⟩:=of_may x
  have hxl:=fly_size hxt (hsm t ht).1 (hsm t ht).2
  have hX:∀ X:World,Below W.heap.size W X→PtAt X x.1.2:=fun X hb=>fly_at hxt ((hs.each t ht).below (hB1.trans (hb.mono hB1.size)))
  have hul:us.length=pre.length:=by have:=congrArg List.length hk; simpa using this
  have hus:us.length≤2097152:=by omega
  clear hul
  obtain ⟨a1,c1,rfl⟩:=owns_slice hO.row
  have hW2:w.heap.size+1≤W.heap.size:=by omega
  have DB:Below W.heap.size W W.drew:=(Below.refl _ _).drew
  have hF:∀ X:World,Below W.heap.size W X→X.cell? ⟨w.heap.size+1+1,0,none⟩=some (.slice a1 us.length c1)∧X.cell? ⟨w.heap.size+1,0,none⟩=some (.int .i64 now)∧X.cell? ⟨Bp,0,none⟩=some (.int .i64 x.1.2.q)∧X.cell? ⟨Bp,1,none⟩=some (.int .i64 x.1.2.s)∧X.cell? ⟨Bp,2,none⟩=some (.slice x.1.2.a x.1.2.l.length x.1.2.cap)∧X.cell? ⟨Bp,3,none⟩=some (.int .i64 x.1.2.fr)∧X.cell? ⟨Bp,4,none⟩=some (.int .i64 x.1.2.b):=fun X hb=>by
   have hP':=(hb.block Bp (lt_of_block hP)).trans hP
   exact ⟨(boxed_below bv hb).cell,(boxed_below bN1 hb).cell,by simp [World.cell?,hP'],by simp [World.cell?,hP'],by simp [World.cell?,hP'],by simp [World.cell?,hP'],by simp [World.cell?,hP']⟩
  have hZB:∀ X Y:World,Below W.heap.size W X→X.grownBy Y (Value.slice a1 us.length c1).ownBlock→Boxed Y (w.heap.size+1+1) 154 (.slice a1 us.length c1)∧Boxed Y (w.heap.size+1) 3 (.int .i64 now)∧KeepsFrom W0.heap.size W Y∧KeepS W0.heap.size b W Y∧Below w.heap.size w Y∧W0.heap.size≤Y.heap.size:=fun X Y hb hg=>by
   have OX:=(hO.below hb).row
   have hN:W0.heap.size≤X.heap.size:=Nat.le_trans hW1 hb.size
   have hBX:=hB1.trans (hb.mono hB1.size)
   have hro:=row_block OX
   refine ⟨grown_typed OX hg (boxed_below bv hb) (by decide),grown_typed OX hg (boxed_below bN1 hb) (by decide),⟨Nat.le_trans hb.size hg.size,fun k o _ ho hc=>grown_other OX hg ((hb.block k (lt_of_block ho)).trans ho) hc⟩,(KeepS.of hW1 hb).trans (KeepS.grown hN hg (fun k cs T e hk=>?_) (fun e=>?_)),hBX.grown hg hBX.size (fun k e=>by have:=(hro k e).1; omega),Nat.le_trans hN hg.size⟩
   ·obtain ⟨_,cs',hc⟩:=hro k e
    rw [hk] at hc
    simp at hc
    rw [hc.2]
    decide
   ·have:=(hro b e).1
    omega
  have hZ:∀ X Y:World,Below W.heap.size W X→X.grownBy Y (Value.slice a1 us.length c1).ownBlock→Y.cell? ⟨w.heap.size+1+1,0,none⟩=some (.slice a1 us.length c1)∧∀ j,Y.frozen? ⟨w.heap.size+1+1,j,none⟩=false:=fun X Y hb hg=>by
   obtain ⟨h1,_⟩:=hZB X Y hb hg
   exact ⟨h1.cell,fun j=>by have h:=h1; unfold Boxed at h; simp [World.frozen?,h]⟩
  have hE:∀ (X Y:World) (v9:Value),Below W.heap.size W X→∀ {u:Tb},Hid (key u=tkey now (vN x)∧X.ownsRow (w.heap.size+1) 195 6 (.slice u.a u.l.length u.cap) u.l.length (rowC u.l)∧TubeAt X u)→Y.ownsRow (w.heap.size+1) 132 2 v9 (us.length+1) (tbCells us ++ u.cl)→X.grownBy Y (Value.slice a1 us.length c1).ownBlock →
    KeepsFrom W0.heap.size W (Y.setCell ⟨w.heap.size+1+1,0,none⟩ v9)∧KeepS W0.heap.size b W (Y.setCell ⟨w.heap.size+1+1,0,none⟩ v9)∧((TubesI w (w.heap.size+1) (w.heap.size+1+1) now ((pre ++ [x]).map vN) (Y.setCell ⟨w.heap.size+1+1,0,none⟩ v9)∧Boxed (Y.setCell ⟨w.heap.size+1+1,0,none⟩ v9) (w.heap.size+1) 3 (.int .i64 now))∧Below w.heap.size w (Y.setCell ⟨w.heap.size+1+1,0,none⟩ v9))∧W0.heap.size≤(Y.setCell ⟨w.heap.size+1+1,0,none⟩ v9).heap.size:=fun X Y v9 hb u hu hown hg=>by
   obtain ⟨b2,b1,kf,ks,bl,hz⟩:=hZB X Y hb hg
   have gs:=grownBy_setCell' Y (w.heap.size+1+1) v9
   have hT:∀ k cs T,some (w.heap.size+1+1)=some k→Y.heap[k]? = some (.cells cs T (0,0))→T=154:=fun k cs T e hk=>by
    cases e
    have h2:Y.heap[w.heap.size+1+1]? = some (.cells #[.slice a1 us.length c1] 154 (0,0)):=b2
    rw [h2] at hk
    simp at hk
    exact hk.2.symm
   refine ⟨kf.trans ((KeepsOthers.setCell _ _ _).from _),ks.trans (KeepS.grown hz gs (fun k cs T e hk=>by rw [hT k cs T e hk]; decide) (fun e=>by cases e; omega)),⟨⟨⟨us ++ [u],v9,?_,b2.set _,?_⟩,b1.other (by omega) _⟩,bl.setCell (p:=⟨w.heap.size+1+1,0,none⟩) (by show _≤w.heap.size+1+1; omega) _⟩,Nat.le_trans hz gs.size⟩
   ·rw [List.map_append,List.map_append,List.map_append,hk]
    simp [hu.out.1]
   ·exact ((hO.below hb).push hown hg hu.out.2.1 hu.out.2.2).kept gs (fun k cs T e hk=>by rw [hT k cs T e hk]; decide)
  gi_wp2
  refine wpIn_region_any (by kernel_rfl) ?_
  refine anyInQ_of (by kernel_rfl) ?_ _ _ _ _ ?_
  ·rintro ⟨a,w,h⟩
   first | exact h | exact h.1 | cases h
  change wpAny _ _ _ _ _ _ _ (World.drew _)
  clear hsz
  refine wpAny_take (i:=1) (v:=.string x.1.1) rfl (by kernel_rfl) (by kernel_rfl) (by kernel_rfl) (fun _ _ _ h=>h) (Or.inl ⟨by rfl,fun W=>by go_simp⟩) ?_
  refine wpAny_ready (rs:=[0,2,3]) (by kernel_rfl) (by simp) ?_
  refine AllReady.cons rfl (fun K hK=>?_) ?_
  ·obtain ⟨f0,f1,f2,f3,f4,f5,f6⟩:=hF W.drew DB
   go_simp
   clear f0 f1 f2 f3 f4 f5 f6
   refine hK _ _ ?_
   clear hK K
   refine wpAny_ready (rs:=[2,3]) (by kernel_rfl) (by simp) ?_
   refine AllReady.cons rfl (fun K hK=>?_) ?_
   ·obtain ⟨f0,f1,f2,f3,f4,f5,f6⟩:=hF W.drew DB
    go_simp
    clear f0 f1 f2 f3 f4 f5 f6
    refine hK _ _ ?_
    clear hK K
    refine wpAny_ready (rs:=[3]) (by kernel_rfl) (by simp) ?_
    refine AllReady.cons rfl (fun K hK=>?_) ?_
    ·obtain ⟨f0,f1,f2,f3,f4,f5,f6⟩:=hF W.drew DB
     go_simp
     clear f0 f1 f2 f3 f4 f5 f6
     refine hK _ _ ?_
     clear hK K
     refine wpAny_ready (rs:=[4]) (by kernel_rfl) (by simp) ?_
     refine AllReady.cons rfl (fun K hK=>?_) ?_
     ·go_simp
      refine (linkTubeI_any hI x.1.1 x.1.2.q x.1.2.s x.1.2.fr x.1.2.b x.1.2.a x.1.2.b0 x.1.2.o x.1.2.cap x.1.2.l now _ hxl (hX _ DB)).mono ?_
      rintro e w2 ⟨v2,rfl,ho2,hb2⟩
      obtain ⟨va,vg,vc,rfl,RB⟩:=owns_rowB ho2
      have D2:=DB.trans (hb2.mono DB.size)
      obtain ⟨u,hu⟩:∃ u:Tb,u=⟨(cutNm (pathTb x.1.1 x.1.2.q x.1.2.s x.1.2.fr x.1.2.b x.1.2.l)),va,vg,0,vc,(cutBx (pathTb x.1.1 x.1.2.q x.1.2.s x.1.2.fr x.1.2.b x.1.2.l) now)⟩:=⟨_,rfl⟩
      have UO:w2.ownsRow (w.heap.size+1) 195 6 (.slice u.a u.l.length u.cap) u.l.length (rowC u.l):=by rw [hu]; exact owns_lower ho2 hW2
      have UT:TubeAt w2 u:=by rw [hu]; exact ⟨RB.at_⟩
      have UK:Hid (key u=tkey now (vN x)):=by show _=_; rw [hu]; rfl
      have e1:(cutNm (pathTb x.1.1 x.1.2.q x.1.2.s x.1.2.fr x.1.2.b x.1.2.l))=u.nm:=by rw [hu]
      have e2:va=u.a:=by rw [hu]
      have e3:(cutBx (pathTb x.1.1 x.1.2.q x.1.2.s x.1.2.fr x.1.2.b x.1.2.l) now)=u.l:=by rw [hu]
      have e4:vc=u.cap:=by rw [hu]
      rw [e1,e2,e3,e4]
      clear e1 e2 e3 e4 hu ho2 RB hb2
      refine hK _ _ ?_
      clear hK K
      refine wpAny_ready (rs:=[5]) (by kernel_rfl) (by simp) ?_
      refine AllReady.cons rfl (fun K hK=>?_) ?_
      ·go_simp
       have b3:=bel1 (w:=w2) (.cells #[.string u.nm,.slice u.a u.l.length u.cap] 132)
       have DB3:=D2.trans (b3.mono D2.size)
       have U3:=owns_below UO b3
       have T3:=UT.below b3
       have O3:=hO.below DB3
       have N3:=tb_newL w2 u 132
       have s3:(w2.alloc (.cells #[.string u.nm,.slice u.a u.l.length u.cap] 132)).heap.size=w2.heap.size+1:=World.size_alloc _ _
       obtain ⟨w3,hw3⟩:∃ w3,w2.alloc (.cells #[.string u.nm,.slice u.a u.l.length u.cap] 132)=w3:=⟨_,rfl⟩
       rw [hw3] at DB3 U3 T3 O3 N3 s3 ⊢
       have D3:=DB3
       have TT:Hid (key u=tkey now (vN x)∧w3.ownsRow (w.heap.size+1) 195 6 (.slice u.a u.l.length u.cap) u.l.length (rowC u.l)∧TubeAt w3 u):=⟨UK.out,U3,T3⟩
       clear hw3 b3 UO UT UK U3 T3
       refine hK _ _ ?_
       clear hK K
       refine wpAny_ready (rs:=[6]) (by kernel_rfl) (by simp) ?_
       refine AllReady.cons rfl (fun K hK=>?_) ?_
       ·refine wp_append_own _ (.tmp 13) (.tmp 18) 154 rfl (w.heap.size+1) 132 i0 (.agg #[.string ⟨#[]⟩,.slice none 0 0]) 2 40 Tryz.underlying154 hi hz0 hz1 hz2 rfl (by decide) (.slice a1 us.length c1) us.length (tbCells us) rfl O3.row ⟨w2.heap.size,0,none⟩ 1 1 u.cl rfl rfl N3 (tb_one u) (by unfold maxLen; omega) (by omega) (by have:=D3.size; omega) ?_
        intro v9 w9 hown9 hgrow9 hnil9
        obtain ⟨a9,c9,rfl⟩:=owns_slice hown9
        clear hnil9
        obtain ⟨z0,zf⟩:=hZ w3 w9 D3 hgrow9
        refine hK _ _ ?_
        clear hK K
        refine wpAny_ready (rs:=[7]) (by kernel_rfl) (by simp) ?_
        refine AllReady.cons rfl (fun K hK=>?_) ?_
        ·go_simp
         refine hK _ _ ?_
         clear hK K
         refine wpAny_done (by kernel_rfl) ?_ _
         exact hE _ _ _ DB3 TT hown9 hgrow9
        exact AllReady.nil
       exact AllReady.nil
      exact AllReady.nil
     exact AllReady.nil
    exact AllReady.nil
   refine AllReady.cons rfl (fun K hK=>?_) ?_
   ·obtain ⟨f0,f1,f2,f3,f4,f5,f6⟩:=hF W.drew DB
    go_simp
    clear f0 f1 f2 f3 f4 f5 f6
    refine hK _ _ ?_
    clear hK K
    refine wpAny_ready (rs:=[2]) (by kernel_rfl) (by simp) ?_
    refine AllReady.cons rfl (fun K hK=>?_) ?_
    ·obtain ⟨f0,f1,f2,f3,f4,f5,f6⟩:=hF W.drew DB
     go_simp
     clear f0 f1 f2 f3 f4 f5 f6
     refine hK _ _ ?_
     clear hK K
     refine wpAny_ready (rs:=[4]) (by kernel_rfl) (by simp) ?_
     refine AllReady.cons rfl (fun K hK=>?_) ?_
     ·go_simp
      refine (linkTubeI_any hI x.1.1 x.1.2.q x.1.2.s x.1.2.fr x.1.2.b x.1.2.a x.1.2.b0 x.1.2.o x.1.2.cap x.1.2.l now _ hxl (hX _ DB)).mono ?_
      rintro e w2 ⟨v2,rfl,ho2,hb2⟩
      obtain ⟨va,vg,vc,rfl,RB⟩:=owns_rowB ho2
      have D2:=DB.trans (hb2.mono DB.size)
      obtain ⟨u,hu⟩:∃ u:Tb,u=⟨(cutNm (pathTb x.1.1 x.1.2.q x.1.2.s x.1.2.fr x.1.2.b x.1.2.l)),va,vg,0,vc,(cutBx (pathTb x.1.1 x.1.2.q x.1.2.s x.1.2.fr x.1.2.b x.1.2.l) now)⟩:=⟨_,rfl⟩
      have UO:w2.ownsRow (w.heap.size+1) 195 6 (.slice u.a u.l.length u.cap) u.l.length (rowC u.l):=by rw [hu]; exact owns_lower ho2 hW2
      have UT:TubeAt w2 u:=by rw [hu]; exact ⟨RB.at_⟩
      have UK:Hid (key u=tkey now (vN x)):=by show _=_; rw [hu]; rfl
      have e1:(cutNm (pathTb x.1.1 x.1.2.q x.1.2.s x.1.2.fr x.1.2.b x.1.2.l))=u.nm:=by rw [hu]
      have e2:va=u.a:=by rw [hu]
      have e3:(cutBx (pathTb x.1.1 x.1.2.q x.1.2.s x.1.2.fr x.1.2.b x.1.2.l) now)=u.l:=by rw [hu]
      have e4:vc=u.cap:=by rw [hu]
      rw [e1,e2,e3,e4]
      clear e1 e2 e3 e4 hu ho2 RB hb2
      refine hK _ _ ?_
      clear hK K
      refine wpAny_ready (rs:=[5]) (by kernel_rfl) (by simp) ?_
      refine AllReady.cons rfl (fun K hK=>?_) ?_
      ·go_simp
       have b3:=bel1 (w:=w2) (.cells #[.string u.nm,.slice u.a u.l.length u.cap] 132)
       have DB3:=D2.trans (b3.mono D2.size)
       have U3:=owns_below UO b3
       have T3:=UT.below b3
       have O3:=hO.below DB3
       have N3:=tb_newL w2 u 132
       have s3:(w2.alloc (.cells #[.string u.nm,.slice u.a u.l.length u.cap] 132)).heap.size=w2.heap.size+1:=World.size_alloc _ _
       obtain ⟨w3,hw3⟩:∃ w3,w2.alloc (.cells #[.string u.nm,.slice u.a u.l.length u.cap] 132)=w3:=⟨_,rfl⟩
       rw [hw3] at DB3 U3 T3 O3 N3 s3 ⊢
       have D3:=DB3
       have TT:Hid (key u=tkey now (vN x)∧w3.ownsRow (w.heap.size+1) 195 6 (.slice u.a u.l.length u.cap) u.l.length (rowC u.l)∧TubeAt w3 u):=⟨UK.out,U3,T3⟩
       clear hw3 b3 UO UT UK U3 T3
       refine hK _ _ ?_
       clear hK K
       refine wpAny_ready (rs:=[6]) (by kernel_rfl) (by simp) ?_
       refine AllReady.cons rfl (fun K hK=>?_) ?_
       ·refine wp_append_own _ (.tmp 13) (.tmp 18) 154 rfl (w.heap.size+1) 132 i0 (.agg #[.string ⟨#[]⟩,.slice none 0 0]) 2 40 Tryz.underlying154 hi hz0 hz1 hz2 rfl (by decide) (.slice a1 us.length c1) us.length (tbCells us) rfl O3.row ⟨w2.heap.size,0,none⟩ 1 1 u.cl rfl rfl N3 (tb_one u) (by unfold maxLen; omega) (by omega) (by have:=D3.size; omega) ?_
        intro v9 w9 hown9 hgrow9 hnil9
        obtain ⟨a9,c9,rfl⟩:=owns_slice hown9
        clear hnil9
        obtain ⟨z0,zf⟩:=hZ w3 w9 D3 hgrow9
        refine hK _ _ ?_
        clear hK K
        refine wpAny_ready (rs:=[7]) (by kernel_rfl) (by simp) ?_
        refine AllReady.cons rfl (fun K hK=>?_) ?_
        ·go_simp
         refine hK _ _ ?_
         clear hK K
         refine wpAny_done (by kernel_rfl) ?_ _
         exact hE _ _ _ DB3 TT hown9 hgrow9
        exact AllReady.nil
       exact AllReady.nil
      exact AllReady.nil
     exact AllReady.nil
    exact AllReady.nil
   exact AllReady.nil
  refine AllReady.cons rfl (fun K hK=>?_) ?_
  ·obtain ⟨f0,f1,f2,f3,f4,f5,f6⟩:=hF W.drew DB
   go_simp
   clear f0 f1 f2 f3 f4 f5 f6
   refine hK _ _ ?_
   clear hK K
   refine wpAny_ready (rs:=[0,3]) (by kernel_rfl) (by simp) ?_
   refine AllReady.cons rfl (fun K hK=>?_) ?_
   ·obtain ⟨f0,f1,f2,f3,f4,f5,f6⟩:=hF W.drew DB
    go_simp
    clear f0 f1 f2 f3 f4 f5 f6
    refine hK _ _ ?_
    clear hK K
    refine wpAny_ready (rs:=[3]) (by kernel_rfl) (by simp) ?_
    refine AllReady.cons rfl (fun K hK=>?_) ?_
    ·obtain ⟨f0,f1,f2,f3,f4,f5,f6⟩:=hF W.drew DB
     go_simp
     clear f0 f1 f2 f3 f4 f5 f6
     refine hK _ _ ?_
     clear hK K
     refine wpAny_ready (rs:=[4]) (by kernel_rfl) (by simp) ?_
     refine AllReady.cons rfl (fun K hK=>?_) ?_
     ·go_simp
      refine (linkTubeI_any hI x.1.1 x.1.2.q x.1.2.s x.1.2.fr x.1.2.b x.1.2.a x.1.2.b0 x.1.2.o x.1.2.cap x.1.2.l now _ hxl (hX _ DB)).mono ?_
      rintro e w2 ⟨v2,rfl,ho2,hb2⟩
      obtain ⟨va,vg,vc,rfl,RB⟩:=owns_rowB ho2
      have D2:=DB.trans (hb2.mono DB.size)
      obtain ⟨u,hu⟩:∃ u:Tb,u=⟨(cutNm (pathTb x.1.1 x.1.2.q x.1.2.s x.1.2.fr x.1.2.b x.1.2.l)),va,vg,0,vc,(cutBx (pathTb x.1.1 x.1.2.q x.1.2.s x.1.2.fr x.1.2.b x.1.2.l) now)⟩:=⟨_,rfl⟩
      have UO:w2.ownsRow (w.heap.size+1) 195 6 (.slice u.a u.l.length u.cap) u.l.length (rowC u.l):=by rw [hu]; exact owns_lower ho2 hW2
      have UT:TubeAt w2 u:=by rw [hu]; exact ⟨RB.at_⟩
      have UK:Hid (key u=tkey now (vN x)):=by show _=_; rw [hu]; rfl
      have e1:(cutNm (pathTb x.1.1 x.1.2.q x.1.2.s x.1.2.fr x.1.2.b x.1.2.l))=u.nm:=by rw [hu]
      have e2:va=u.a:=by rw [hu]
      have e3:(cutBx (pathTb x.1.1 x.1.2.q x.1.2.s x.1.2.fr x.1.2.b x.1.2.l) now)=u.l:=by rw [hu]
      have e4:vc=u.cap:=by rw [hu]
      rw [e1,e2,e3,e4]
      clear e1 e2 e3 e4 hu ho2 RB hb2
      refine hK _ _ ?_
      clear hK K
      refine wpAny_ready (rs:=[5]) (by kernel_rfl) (by simp) ?_
      refine AllReady.cons rfl (fun K hK=>?_) ?_
      ·go_simp
       have b3:=bel1 (w:=w2) (.cells #[.string u.nm,.slice u.a u.l.length u.cap] 132)
       have DB3:=D2.trans (b3.mono D2.size)
       have U3:=owns_below UO b3
       have T3:=UT.below b3
       have O3:=hO.below DB3
       have N3:=tb_newL w2 u 132
       have s3:(w2.alloc (.cells #[.string u.nm,.slice u.a u.l.length u.cap] 132)).heap.size=w2.heap.size+1:=World.size_alloc _ _
       obtain ⟨w3,hw3⟩:∃ w3,w2.alloc (.cells #[.string u.nm,.slice u.a u.l.length u.cap] 132)=w3:=⟨_,rfl⟩
       rw [hw3] at DB3 U3 T3 O3 N3 s3 ⊢
       have D3:=DB3
       have TT:Hid (key u=tkey now (vN x)∧w3.ownsRow (w.heap.size+1) 195 6 (.slice u.a u.l.length u.cap) u.l.length (rowC u.l)∧TubeAt w3 u):=⟨UK.out,U3,T3⟩
       clear hw3 b3 UO UT UK U3 T3
       refine hK _ _ ?_
       clear hK K
       refine wpAny_ready (rs:=[6]) (by kernel_rfl) (by simp) ?_
       refine AllReady.cons rfl (fun K hK=>?_) ?_
       ·refine wp_append_own _ (.tmp 13) (.tmp 18) 154 rfl (w.heap.size+1) 132 i0 (.agg #[.string ⟨#[]⟩,.slice none 0 0]) 2 40 Tryz.underlying154 hi hz0 hz1 hz2 rfl (by decide) (.slice a1 us.length c1) us.length (tbCells us) rfl O3.row ⟨w2.heap.size,0,none⟩ 1 1 u.cl rfl rfl N3 (tb_one u) (by unfold maxLen; omega) (by omega) (by have:=D3.size; omega) ?_
        intro v9 w9 hown9 hgrow9 hnil9
        obtain ⟨a9,c9,rfl⟩:=owns_slice hown9
        clear hnil9
        obtain ⟨z0,zf⟩:=hZ w3 w9 D3 hgrow9
        refine hK _ _ ?_
        clear hK K
        refine wpAny_ready (rs:=[7]) (by kernel_rfl) (by simp) ?_
        refine AllReady.cons rfl (fun K hK=>?_) ?_
        ·go_simp
         refine hK _ _ ?_
         clear hK K
         refine wpAny_done (by kernel_rfl) ?_ _
         exact hE _ _ _ DB3 TT hown9 hgrow9
        exact AllReady.nil
       exact AllReady.nil
      exact AllReady.nil
     exact AllReady.nil
    exact AllReady.nil
   refine AllReady.cons rfl (fun K hK=>?_) ?_
   ·obtain ⟨f0,f1,f2,f3,f4,f5,f6⟩:=hF W.drew DB
    go_simp
    clear f0 f1 f2 f3 f4 f5 f6
    refine hK _ _ ?_
    clear hK K
    refine wpAny_ready (rs:=[0,4]) (by kernel_rfl) (by simp) ?_
    refine AllReady.cons rfl (fun K hK=>?_) ?_
    ·obtain ⟨f0,f1,f2,f3,f4,f5,f6⟩:=hF W.drew DB
     go_simp
     clear f0 f1 f2 f3 f4 f5 f6
     refine hK _ _ ?_
     clear hK K
     refine wpAny_ready (rs:=[4]) (by kernel_rfl) (by simp) ?_
     refine AllReady.cons rfl (fun K hK=>?_) ?_
     ·go_simp
      refine (linkTubeI_any hI x.1.1 x.1.2.q x.1.2.s x.1.2.fr x.1.2.b x.1.2.a x.1.2.b0 x.1.2.o x.1.2.cap x.1.2.l now _ hxl (hX _ DB)).mono ?_
      rintro e w2 ⟨v2,rfl,ho2,hb2⟩
      obtain ⟨va,vg,vc,rfl,RB⟩:=owns_rowB ho2
      have D2:=DB.trans (hb2.mono DB.size)
      obtain ⟨u,hu⟩:∃ u:Tb,u=⟨(cutNm (pathTb x.1.1 x.1.2.q x.1.2.s x.1.2.fr x.1.2.b x.1.2.l)),va,vg,0,vc,(cutBx (pathTb x.1.1 x.1.2.q x.1.2.s x.1.2.fr x.1.2.b x.1.2.l) now)⟩:=⟨_,rfl⟩
      have UO:w2.ownsRow (w.heap.size+1) 195 6 (.slice u.a u.l.length u.cap) u.l.length (rowC u.l):=by rw [hu]; exact owns_lower ho2 hW2
      have UT:TubeAt w2 u:=by rw [hu]; exact ⟨RB.at_⟩
      have UK:Hid (key u=tkey now (vN x)):=by show _=_; rw [hu]; rfl
      have e1:(cutNm (pathTb x.1.1 x.1.2.q x.1.2.s x.1.2.fr x.1.2.b x.1.2.l))=u.nm:=by rw [hu]
      have e2:va=u.a:=by rw [hu]
      have e3:(cutBx (pathTb x.1.1 x.1.2.q x.1.2.s x.1.2.fr x.1.2.b x.1.2.l) now)=u.l:=by rw [hu]
      have e4:vc=u.cap:=by rw [hu]
      rw [e1,e2,e3,e4]
      clear e1 e2 e3 e4 hu ho2 RB hb2
      refine hK _ _ ?_
      clear hK K
      refine wpAny_ready (rs:=[5]) (by kernel_rfl) (by simp) ?_
      refine AllReady.cons rfl (fun K hK=>?_) ?_
      ·go_simp
       have b3:=bel1 (w:=w2) (.cells #[.string u.nm,.slice u.a u.l.length u.cap] 132)
       have DB3:=D2.trans (b3.mono D2.size)
       have U3:=owns_below UO b3
       have T3:=UT.below b3
       have O3:=hO.below DB3
       have N3:=tb_newL w2 u 132
       have s3:(w2.alloc (.cells #[.string u.nm,.slice u.a u.l.length u.cap] 132)).heap.size=w2.heap.size+1:=World.size_alloc _ _
       obtain ⟨w3,hw3⟩:∃ w3,w2.alloc (.cells #[.string u.nm,.slice u.a u.l.length u.cap] 132)=w3:=⟨_,rfl⟩
       rw [hw3] at DB3 U3 T3 O3 N3 s3 ⊢
       have D3:=DB3
       have TT:Hid (key u=tkey now (vN x)∧w3.ownsRow (w.heap.size+1) 195 6 (.slice u.a u.l.length u.cap) u.l.length (rowC u.l)∧TubeAt w3 u):=⟨UK.out,U3,T3⟩
       clear hw3 b3 UO UT UK U3 T3
       refine hK _ _ ?_
       clear hK K
       refine wpAny_ready (rs:=[6]) (by kernel_rfl) (by simp) ?_
       refine AllReady.cons rfl (fun K hK=>?_) ?_
       ·refine wp_append_own _ (.tmp 13) (.tmp 18) 154 rfl (w.heap.size+1) 132 i0 (.agg #[.string ⟨#[]⟩,.slice none 0 0]) 2 40 Tryz.underlying154 hi hz0 hz1 hz2 rfl (by decide) (.slice a1 us.length c1) us.length (tbCells us) rfl O3.row ⟨w2.heap.size,0,none⟩ 1 1 u.cl rfl rfl N3 (tb_one u) (by unfold maxLen; omega) (by omega) (by have:=D3.size; omega) ?_
        intro v9 w9 hown9 hgrow9 hnil9
        obtain ⟨a9,c9,rfl⟩:=owns_slice hown9
        clear hnil9
        obtain ⟨z0,zf⟩:=hZ w3 w9 D3 hgrow9
        refine hK _ _ ?_
        clear hK K
        refine wpAny_ready (rs:=[7]) (by kernel_rfl) (by simp) ?_
        refine AllReady.cons rfl (fun K hK=>?_) ?_
        ·go_simp
         refine hK _ _ ?_
         clear hK K
         refine wpAny_done (by kernel_rfl) ?_ _
         exact hE _ _ _ DB3 TT hown9 hgrow9
        exact AllReady.nil
       exact AllReady.nil
      exact AllReady.nil
     exact AllReady.nil
    refine AllReady.cons rfl (fun K hK=>?_) ?_
    ·go_simp
     refine (linkTubeI_any hI x.1.1 x.1.2.q x.1.2.s x.1.2.fr x.1.2.b x.1.2.a x.1.2.b0 x.1.2.o x.1.2.cap x.1.2.l now _ hxl (hX _ DB)).mono ?_
     rintro e w2 ⟨v2,rfl,ho2,hb2⟩
     obtain ⟨va,vg,vc,rfl,RB⟩:=owns_rowB ho2
     have D2:=DB.trans (hb2.mono DB.size)
     obtain ⟨u,hu⟩:∃ u:Tb,u=⟨(cutNm (pathTb x.1.1 x.1.2.q x.1.2.s x.1.2.fr x.1.2.b x.1.2.l)),va,vg,0,vc,(cutBx (pathTb x.1.1 x.1.2.q x.1.2.s x.1.2.fr x.1.2.b x.1.2.l) now)⟩:=⟨_,rfl⟩
     have UO:w2.ownsRow (w.heap.size+1) 195 6 (.slice u.a u.l.length u.cap) u.l.length (rowC u.l):=by rw [hu]; exact owns_lower ho2 hW2
     have UT:TubeAt w2 u:=by rw [hu]; exact ⟨RB.at_⟩
     have UK:Hid (key u=tkey now (vN x)):=by show _=_; rw [hu]; rfl
     have e1:(cutNm (pathTb x.1.1 x.1.2.q x.1.2.s x.1.2.fr x.1.2.b x.1.2.l))=u.nm:=by rw [hu]
     have e2:va=u.a:=by rw [hu]
     have e3:(cutBx (pathTb x.1.1 x.1.2.q x.1.2.s x.1.2.fr x.1.2.b x.1.2.l) now)=u.l:=by rw [hu]
     have e4:vc=u.cap:=by rw [hu]
     rw [e1,e2,e3,e4]
     clear e1 e2 e3 e4 hu ho2 RB hb2
     refine hK _ _ ?_
     clear hK K
     refine wpAny_ready (rs:=[0,5]) (by kernel_rfl) (by simp) ?_
     refine AllReady.cons rfl (fun K hK=>?_) ?_
     ·obtain ⟨f0,f1,f2,f3,f4,f5,f6⟩:=hF w2 D2
      go_simp
      clear f0 f1 f2 f3 f4 f5 f6
      refine hK _ _ ?_
      clear hK K
      refine wpAny_ready (rs:=[5]) (by kernel_rfl) (by simp) ?_
      refine AllReady.cons rfl (fun K hK=>?_) ?_
      ·go_simp
       have b3:=bel1 (w:=w2) (.cells #[.string u.nm,.slice u.a u.l.length u.cap] 132)
       have DB3:=D2.trans (b3.mono D2.size)
       have U3:=owns_below UO b3
       have T3:=UT.below b3
       have O3:=hO.below DB3
       have N3:=tb_newL w2 u 132
       have s3:(w2.alloc (.cells #[.string u.nm,.slice u.a u.l.length u.cap] 132)).heap.size=w2.heap.size+1:=World.size_alloc _ _
       obtain ⟨w3,hw3⟩:∃ w3,w2.alloc (.cells #[.string u.nm,.slice u.a u.l.length u.cap] 132)=w3:=⟨_,rfl⟩
       rw [hw3] at DB3 U3 T3 O3 N3 s3 ⊢
       have D3:=DB3
       have TT:Hid (key u=tkey now (vN x)∧w3.ownsRow (w.heap.size+1) 195 6 (.slice u.a u.l.length u.cap) u.l.length (rowC u.l)∧TubeAt w3 u):=⟨UK.out,U3,T3⟩
       clear hw3 b3 UO UT UK U3 T3
       refine hK _ _ ?_
       clear hK K
       refine wpAny_ready (rs:=[6]) (by kernel_rfl) (by simp) ?_
       refine AllReady.cons rfl (fun K hK=>?_) ?_
       ·refine wp_append_own _ (.tmp 13) (.tmp 18) 154 rfl (w.heap.size+1) 132 i0 (.agg #[.string ⟨#[]⟩,.slice none 0 0]) 2 40 Tryz.underlying154 hi hz0 hz1 hz2 rfl (by decide) (.slice a1 us.length c1) us.length (tbCells us) rfl O3.row ⟨w2.heap.size,0,none⟩ 1 1 u.cl rfl rfl N3 (tb_one u) (by unfold maxLen; omega) (by omega) (by have:=D3.size; omega) ?_
        intro v9 w9 hown9 hgrow9 hnil9
        obtain ⟨a9,c9,rfl⟩:=owns_slice hown9
        clear hnil9
        obtain ⟨z0,zf⟩:=hZ w3 w9 D3 hgrow9
        refine hK _ _ ?_
        clear hK K
        refine wpAny_ready (rs:=[7]) (by kernel_rfl) (by simp) ?_
        refine AllReady.cons rfl (fun K hK=>?_) ?_
        ·go_simp
         refine hK _ _ ?_
         clear hK K
         refine wpAny_done (by kernel_rfl) ?_ _
         exact hE _ _ _ DB3 TT hown9 hgrow9
        exact AllReady.nil
       exact AllReady.nil
      exact AllReady.nil
     refine AllReady.cons rfl (fun K hK=>?_) ?_
     ·go_simp
      have b3:=bel1 (w:=w2) (.cells #[.string u.nm,.slice u.a u.l.length u.cap] 132)
      have DB3:=D2.trans (b3.mono D2.size)
      have U3:=owns_below UO b3
      have T3:=UT.below b3
      have O3:=hO.below DB3
      have N3:=tb_newL w2 u 132
      have s3:(w2.alloc (.cells #[.string u.nm,.slice u.a u.l.length u.cap] 132)).heap.size=w2.heap.size+1:=World.size_alloc _ _
      obtain ⟨w3,hw3⟩:∃ w3,w2.alloc (.cells #[.string u.nm,.slice u.a u.l.length u.cap] 132)=w3:=⟨_,rfl⟩
      rw [hw3] at DB3 U3 T3 O3 N3 s3 ⊢
      have D3:=DB3
      have TT:Hid (key u=tkey now (vN x)∧w3.ownsRow (w.heap.size+1) 195 6 (.slice u.a u.l.length u.cap) u.l.length (rowC u.l)∧TubeAt w3 u):=⟨UK.out,U3,T3⟩
      clear hw3 b3 UO UT UK U3 T3
      refine hK _ _ ?_
      clear hK K
      refine wpAny_ready (rs:=[0]) (by kernel_rfl) (by simp) ?_
      refine AllReady.cons rfl (fun K hK=>?_) ?_
      ·obtain ⟨f0,f1,f2,f3,f4,f5,f6⟩:=hF w3 D3
       go_simp
       clear f0 f1 f2 f3 f4 f5 f6
       refine hK _ _ ?_
       clear hK K
       refine wpAny_ready (rs:=[6]) (by kernel_rfl) (by simp) ?_
       refine AllReady.cons rfl (fun K hK=>?_) ?_
       ·refine wp_append_own _ (.tmp 13) (.tmp 18) 154 rfl (w.heap.size+1) 132 i0 (.agg #[.string ⟨#[]⟩,.slice none 0 0]) 2 40 Tryz.underlying154 hi hz0 hz1 hz2 rfl (by decide) (.slice a1 us.length c1) us.length (tbCells us) rfl O3.row ⟨w2.heap.size,0,none⟩ 1 1 u.cl rfl rfl N3 (tb_one u) (by unfold maxLen; omega) (by omega) (by have:=D3.size; omega) ?_
        intro v9 w9 hown9 hgrow9 hnil9
        obtain ⟨a9,c9,rfl⟩:=owns_slice hown9
        clear hnil9
        obtain ⟨z0,zf⟩:=hZ w3 w9 D3 hgrow9
        refine hK _ _ ?_
        clear hK K
        refine wpAny_ready (rs:=[7]) (by kernel_rfl) (by simp) ?_
        refine AllReady.cons rfl (fun K hK=>?_) ?_
        ·go_simp
         refine hK _ _ ?_
         clear hK K
         refine wpAny_done (by kernel_rfl) ?_ _
         exact hE _ _ _ DB3 TT hown9 hgrow9
        exact AllReady.nil
       exact AllReady.nil
      exact AllReady.nil
     exact AllReady.nil
    exact AllReady.nil
   exact AllReady.nil
  refine AllReady.cons rfl (fun K hK=>?_) ?_
  ·obtain ⟨f0,f1,f2,f3,f4,f5,f6⟩:=hF W.drew DB
   go_simp
   clear f0 f1 f2 f3 f4 f5 f6
   refine hK _ _ ?_
   clear hK K
   refine wpAny_ready (rs:=[0,2]) (by kernel_rfl) (by simp) ?_
   refine AllReady.cons rfl (fun K hK=>?_) ?_
   ·obtain ⟨f0,f1,f2,f3,f4,f5,f6⟩:=hF W.drew DB
    go_simp
    clear f0 f1 f2 f3 f4 f5 f6
    refine hK _ _ ?_
    clear hK K
    refine wpAny_ready (rs:=[2]) (by kernel_rfl) (by simp) ?_
    refine AllReady.cons rfl (fun K hK=>?_) ?_
    ·obtain ⟨f0,f1,f2,f3,f4,f5,f6⟩:=hF W.drew DB
     go_simp
     clear f0 f1 f2 f3 f4 f5 f6
     refine hK _ _ ?_
     clear hK K
     refine wpAny_ready (rs:=[4]) (by kernel_rfl) (by simp) ?_
     refine AllReady.cons rfl (fun K hK=>?_) ?_
     ·go_simp
      refine (linkTubeI_any hI x.1.1 x.1.2.q x.1.2.s x.1.2.fr x.1.2.b x.1.2.a x.1.2.b0 x.1.2.o x.1.2.cap x.1.2.l now _ hxl (hX _ DB)).mono ?_
      rintro e w2 ⟨v2,rfl,ho2,hb2⟩
      obtain ⟨va,vg,vc,rfl,RB⟩:=owns_rowB ho2
      have D2:=DB.trans (hb2.mono DB.size)
      obtain ⟨u,hu⟩:∃ u:Tb,u=⟨(cutNm (pathTb x.1.1 x.1.2.q x.1.2.s x.1.2.fr x.1.2.b x.1.2.l)),va,vg,0,vc,(cutBx (pathTb x.1.1 x.1.2.q x.1.2.s x.1.2.fr x.1.2.b x.1.2.l) now)⟩:=⟨_,rfl⟩
      have UO:w2.ownsRow (w.heap.size+1) 195 6 (.slice u.a u.l.length u.cap) u.l.length (rowC u.l):=by rw [hu]; exact owns_lower ho2 hW2
      have UT:TubeAt w2 u:=by rw [hu]; exact ⟨RB.at_⟩
      have UK:Hid (key u=tkey now (vN x)):=by show _=_; rw [hu]; rfl
      have e1:(cutNm (pathTb x.1.1 x.1.2.q x.1.2.s x.1.2.fr x.1.2.b x.1.2.l))=u.nm:=by rw [hu]
      have e2:va=u.a:=by rw [hu]
      have e3:(cutBx (pathTb x.1.1 x.1.2.q x.1.2.s x.1.2.fr x.1.2.b x.1.2.l) now)=u.l:=by rw [hu]
      have e4:vc=u.cap:=by rw [hu]
      rw [e1,e2,e3,e4]
      clear e1 e2 e3 e4 hu ho2 RB hb2
      refine hK _ _ ?_
      clear hK K
      refine wpAny_ready (rs:=[5]) (by kernel_rfl) (by simp) ?_
      refine AllReady.cons rfl (fun K hK=>?_) ?_
      ·go_simp
       have b3:=bel1 (w:=w2) (.cells #[.string u.nm,.slice u.a u.l.length u.cap] 132)
       have DB3:=D2.trans (b3.mono D2.size)
       have U3:=owns_below UO b3
       have T3:=UT.below b3
       have O3:=hO.below DB3
       have N3:=tb_newL w2 u 132
       have s3:(w2.alloc (.cells #[.string u.nm,.slice u.a u.l.length u.cap] 132)).heap.size=w2.heap.size+1:=World.size_alloc _ _
       obtain ⟨w3,hw3⟩:∃ w3,w2.alloc (.cells #[.string u.nm,.slice u.a u.l.length u.cap] 132)=w3:=⟨_,rfl⟩
       rw [hw3] at DB3 U3 T3 O3 N3 s3 ⊢
       have D3:=DB3
       have TT:Hid (key u=tkey now (vN x)∧w3.ownsRow (w.heap.size+1) 195 6 (.slice u.a u.l.length u.cap) u.l.length (rowC u.l)∧TubeAt w3 u):=⟨UK.out,U3,T3⟩
       clear hw3 b3 UO UT UK U3 T3
       refine hK _ _ ?_
       clear hK K
       refine wpAny_ready (rs:=[6]) (by kernel_rfl) (by simp) ?_
       refine AllReady.cons rfl (fun K hK=>?_) ?_
       ·refine wp_append_own _ (.tmp 13) (.tmp 18) 154 rfl (w.heap.size+1) 132 i0 (.agg #[.string ⟨#[]⟩,.slice none 0 0]) 2 40 Tryz.underlying154 hi hz0 hz1 hz2 rfl (by decide) (.slice a1 us.length c1) us.length (tbCells us) rfl O3.row ⟨w2.heap.size,0,none⟩ 1 1 u.cl rfl rfl N3 (tb_one u) (by unfold maxLen; omega) (by omega) (by have:=D3.size; omega) ?_
        intro v9 w9 hown9 hgrow9 hnil9
        obtain ⟨a9,c9,rfl⟩:=owns_slice hown9
        clear hnil9
        obtain ⟨z0,zf⟩:=hZ w3 w9 D3 hgrow9
        refine hK _ _ ?_
        clear hK K
        refine wpAny_ready (rs:=[7]) (by kernel_rfl) (by simp) ?_
        refine AllReady.cons rfl (fun K hK=>?_) ?_
        ·go_simp
         refine hK _ _ ?_
         clear hK K
         refine wpAny_done (by kernel_rfl) ?_ _
         exact hE _ _ _ DB3 TT hown9 hgrow9
        exact AllReady.nil
       exact AllReady.nil
      exact AllReady.nil
     exact AllReady.nil
    exact AllReady.nil
   refine AllReady.cons rfl (fun K hK=>?_) ?_
   ·obtain ⟨f0,f1,f2,f3,f4,f5,f6⟩:=hF W.drew DB
    go_simp
    clear f0 f1 f2 f3 f4 f5 f6
    refine hK _ _ ?_
    clear hK K
    refine wpAny_ready (rs:=[0,4]) (by kernel_rfl) (by simp) ?_
    refine AllReady.cons rfl (fun K hK=>?_) ?_
    ·obtain ⟨f0,f1,f2,f3,f4,f5,f6⟩:=hF W.drew DB
     go_simp
     clear f0 f1 f2 f3 f4 f5 f6
     refine hK _ _ ?_
     clear hK K
     refine wpAny_ready (rs:=[4]) (by kernel_rfl) (by simp) ?_
     refine AllReady.cons rfl (fun K hK=>?_) ?_
     ·go_simp
      refine (linkTubeI_any hI x.1.1 x.1.2.q x.1.2.s x.1.2.fr x.1.2.b x.1.2.a x.1.2.b0 x.1.2.o x.1.2.cap x.1.2.l now _ hxl (hX _ DB)).mono ?_
      rintro e w2 ⟨v2,rfl,ho2,hb2⟩
      obtain ⟨va,vg,vc,rfl,RB⟩:=owns_rowB ho2
      have D2:=DB.trans (hb2.mono DB.size)
      obtain ⟨u,hu⟩:∃ u:Tb,u=⟨(cutNm (pathTb x.1.1 x.1.2.q x.1.2.s x.1.2.fr x.1.2.b x.1.2.l)),va,vg,0,vc,(cutBx (pathTb x.1.1 x.1.2.q x.1.2.s x.1.2.fr x.1.2.b x.1.2.l) now)⟩:=⟨_,rfl⟩
      have UO:w2.ownsRow (w.heap.size+1) 195 6 (.slice u.a u.l.length u.cap) u.l.length (rowC u.l):=by rw [hu]; exact owns_lower ho2 hW2
      have UT:TubeAt w2 u:=by rw [hu]; exact ⟨RB.at_⟩
      have UK:Hid (key u=tkey now (vN x)):=by show _=_; rw [hu]; rfl
      have e1:(cutNm (pathTb x.1.1 x.1.2.q x.1.2.s x.1.2.fr x.1.2.b x.1.2.l))=u.nm:=by rw [hu]
      have e2:va=u.a:=by rw [hu]
      have e3:(cutBx (pathTb x.1.1 x.1.2.q x.1.2.s x.1.2.fr x.1.2.b x.1.2.l) now)=u.l:=by rw [hu]
      have e4:vc=u.cap:=by rw [hu]
      rw [e1,e2,e3,e4]
      clear e1 e2 e3 e4 hu ho2 RB hb2
      refine hK _ _ ?_
      clear hK K
      refine wpAny_ready (rs:=[5]) (by kernel_rfl) (by simp) ?_
      refine AllReady.cons rfl (fun K hK=>?_) ?_
      ·go_simp
       have b3:=bel1 (w:=w2) (.cells #[.string u.nm,.slice u.a u.l.length u.cap] 132)
       have DB3:=D2.trans (b3.mono D2.size)
       have U3:=owns_below UO b3
       have T3:=UT.below b3
       have O3:=hO.below DB3
       have N3:=tb_newL w2 u 132
       have s3:(w2.alloc (.cells #[.string u.nm,.slice u.a u.l.length u.cap] 132)).heap.size=w2.heap.size+1:=World.size_alloc _ _
       obtain ⟨w3,hw3⟩:∃ w3,w2.alloc (.cells #[.string u.nm,.slice u.a u.l.length u.cap] 132)=w3:=⟨_,rfl⟩
       rw [hw3] at DB3 U3 T3 O3 N3 s3 ⊢
       have D3:=DB3
       have TT:Hid (key u=tkey now (vN x)∧w3.ownsRow (w.heap.size+1) 195 6 (.slice u.a u.l.length u.cap) u.l.length (rowC u.l)∧TubeAt w3 u):=⟨UK.out,U3,T3⟩
       clear hw3 b3 UO UT UK U3 T3
       refine hK _ _ ?_
       clear hK K
       refine wpAny_ready (rs:=[6]) (by kernel_rfl) (by simp) ?_
       refine AllReady.cons rfl (fun K hK=>?_) ?_
       ·refine wp_append_own _ (.tmp 13) (.tmp 18) 154 rfl (w.heap.size+1) 132 i0 (.agg #[.string ⟨#[]⟩,.slice none 0 0]) 2 40 Tryz.underlying154 hi hz0 hz1 hz2 rfl (by decide) (.slice a1 us.length c1) us.length (tbCells us) rfl O3.row ⟨w2.heap.size,0,none⟩ 1 1 u.cl rfl rfl N3 (tb_one u) (by unfold maxLen; omega) (by omega) (by have:=D3.size; omega) ?_
        intro v9 w9 hown9 hgrow9 hnil9
        obtain ⟨a9,c9,rfl⟩:=owns_slice hown9
        clear hnil9
        obtain ⟨z0,zf⟩:=hZ w3 w9 D3 hgrow9
        refine hK _ _ ?_
        clear hK K
        refine wpAny_ready (rs:=[7]) (by kernel_rfl) (by simp) ?_
        refine AllReady.cons rfl (fun K hK=>?_) ?_
        ·go_simp
         refine hK _ _ ?_
         clear hK K
         refine wpAny_done (by kernel_rfl) ?_ _
         exact hE _ _ _ DB3 TT hown9 hgrow9
        exact AllReady.nil
       exact AllReady.nil
      exact AllReady.nil
     exact AllReady.nil
    refine AllReady.cons rfl (fun K hK=>?_) ?_
    ·go_simp
     refine (linkTubeI_any hI x.1.1 x.1.2.q x.1.2.s x.1.2.fr x.1.2.b x.1.2.a x.1.2.b0 x.1.2.o x.1.2.cap x.1.2.l now _ hxl (hX _ DB)).mono ?_
     rintro e w2 ⟨v2,rfl,ho2,hb2⟩
     obtain ⟨va,vg,vc,rfl,RB⟩:=owns_rowB ho2
     have D2:=DB.trans (hb2.mono DB.size)
     obtain ⟨u,hu⟩:∃ u:Tb,u=⟨(cutNm (pathTb x.1.1 x.1.2.q x.1.2.s x.1.2.fr x.1.2.b x.1.2.l)),va,vg,0,vc,(cutBx (pathTb x.1.1 x.1.2.q x.1.2.s x.1.2.fr x.1.2.b x.1.2.l) now)⟩:=⟨_,rfl⟩
     have UO:w2.ownsRow (w.heap.size+1) 195 6 (.slice u.a u.l.length u.cap) u.l.length (rowC u.l):=by rw [hu]; exact owns_lower ho2 hW2
     have UT:TubeAt w2 u:=by rw [hu]; exact ⟨RB.at_⟩
     have UK:Hid (key u=tkey now (vN x)):=by show _=_; rw [hu]; rfl
     have e1:(cutNm (pathTb x.1.1 x.1.2.q x.1.2.s x.1.2.fr x.1.2.b x.1.2.l))=u.nm:=by rw [hu]
     have e2:va=u.a:=by rw [hu]
     have e3:(cutBx (pathTb x.1.1 x.1.2.q x.1.2.s x.1.2.fr x.1.2.b x.1.2.l) now)=u.l:=by rw [hu]
     have e4:vc=u.cap:=by rw [hu]
     rw [e1,e2,e3,e4]
     clear e1 e2 e3 e4 hu ho2 RB hb2
     refine hK _ _ ?_
     clear hK K
     refine wpAny_ready (rs:=[0,5]) (by kernel_rfl) (by simp) ?_
     refine AllReady.cons rfl (fun K hK=>?_) ?_
     ·obtain ⟨f0,f1,f2,f3,f4,f5,f6⟩:=hF w2 D2
      go_simp
      clear f0 f1 f2 f3 f4 f5 f6
      refine hK _ _ ?_
      clear hK K
      refine wpAny_ready (rs:=[5]) (by kernel_rfl) (by simp) ?_
      refine AllReady.cons rfl (fun K hK=>?_) ?_
      ·go_simp
       have b3:=bel1 (w:=w2) (.cells #[.string u.nm,.slice u.a u.l.length u.cap] 132)
       have DB3:=D2.trans (b3.mono D2.size)
       have U3:=owns_below UO b3
       have T3:=UT.below b3
       have O3:=hO.below DB3
       have N3:=tb_newL w2 u 132
       have s3:(w2.alloc (.cells #[.string u.nm,.slice u.a u.l.length u.cap] 132)).heap.size=w2.heap.size+1:=World.size_alloc _ _
       obtain ⟨w3,hw3⟩:∃ w3,w2.alloc (.cells #[.string u.nm,.slice u.a u.l.length u.cap] 132)=w3:=⟨_,rfl⟩
       rw [hw3] at DB3 U3 T3 O3 N3 s3 ⊢
       have D3:=DB3
       have TT:Hid (key u=tkey now (vN x)∧w3.ownsRow (w.heap.size+1) 195 6 (.slice u.a u.l.length u.cap) u.l.length (rowC u.l)∧TubeAt w3 u):=⟨UK.out,U3,T3⟩
       clear hw3 b3 UO UT UK U3 T3
       refine hK _ _ ?_
       clear hK K
       refine wpAny_ready (rs:=[6]) (by kernel_rfl) (by simp) ?_
       refine AllReady.cons rfl (fun K hK=>?_) ?_
       ·refine wp_append_own _ (.tmp 13) (.tmp 18) 154 rfl (w.heap.size+1) 132 i0 (.agg #[.string ⟨#[]⟩,.slice none 0 0]) 2 40 Tryz.underlying154 hi hz0 hz1 hz2 rfl (by decide) (.slice a1 us.length c1) us.length (tbCells us) rfl O3.row ⟨w2.heap.size,0,none⟩ 1 1 u.cl rfl rfl N3 (tb_one u) (by unfold maxLen; omega) (by omega) (by have:=D3.size; omega) ?_
        intro v9 w9 hown9 hgrow9 hnil9
        obtain ⟨a9,c9,rfl⟩:=owns_slice hown9
        clear hnil9
        obtain ⟨z0,zf⟩:=hZ w3 w9 D3 hgrow9
        refine hK _ _ ?_
        clear hK K
        refine wpAny_ready (rs:=[7]) (by kernel_rfl) (by simp) ?_
        refine AllReady.cons rfl (fun K hK=>?_) ?_
        ·go_simp
         refine hK _ _ ?_
         clear hK K
         refine wpAny_done (by kernel_rfl) ?_ _
         exact hE _ _ _ DB3 TT hown9 hgrow9
        exact AllReady.nil
       exact AllReady.nil
      exact AllReady.nil
     refine AllReady.cons rfl (fun K hK=>?_) ?_
     ·go_simp
      have b3:=bel1 (w:=w2) (.cells #[.string u.nm,.slice u.a u.l.length u.cap] 132)
      have DB3:=D2.trans (b3.mono D2.size)
      have U3:=owns_below UO b3
      have T3:=UT.below b3
      have O3:=hO.below DB3
      have N3:=tb_newL w2 u 132
      have s3:(w2.alloc (.cells #[.string u.nm,.slice u.a u.l.length u.cap] 132)).heap.size=w2.heap.size+1:=World.size_alloc _ _
      obtain ⟨w3,hw3⟩:∃ w3,w2.alloc (.cells #[.string u.nm,.slice u.a u.l.length u.cap] 132)=w3:=⟨_,rfl⟩
      rw [hw3] at DB3 U3 T3 O3 N3 s3 ⊢
      have D3:=DB3
      have TT:Hid (key u=tkey now (vN x)∧w3.ownsRow (w.heap.size+1) 195 6 (.slice u.a u.l.length u.cap) u.l.length (rowC u.l)∧TubeAt w3 u):=⟨UK.out,U3,T3⟩
      clear hw3 b3 UO UT UK U3 T3
      refine hK _ _ ?_
      clear hK K
      refine wpAny_ready (rs:=[0]) (by kernel_rfl) (by simp) ?_
      refine AllReady.cons rfl (fun K hK=>?_) ?_
      ·obtain ⟨f0,f1,f2,f3,f4,f5,f6⟩:=hF w3 D3
       go_simp
       clear f0 f1 f2 f3 f4 f5 f6
       refine hK _ _ ?_
       clear hK K
       refine wpAny_ready (rs:=[6]) (by kernel_rfl) (by simp) ?_
       refine AllReady.cons rfl (fun K hK=>?_) ?_
       ·refine wp_append_own _ (.tmp 13) (.tmp 18) 154 rfl (w.heap.size+1) 132 i0 (.agg #[.string ⟨#[]⟩,.slice none 0 0]) 2 40 Tryz.underlying154 hi hz0 hz1 hz2 rfl (by decide) (.slice a1 us.length c1) us.length (tbCells us) rfl O3.row ⟨w2.heap.size,0,none⟩ 1 1 u.cl rfl rfl N3 (tb_one u) (by unfold maxLen; omega) (by omega) (by have:=D3.size; omega) ?_
        intro v9 w9 hown9 hgrow9 hnil9
        obtain ⟨a9,c9,rfl⟩:=owns_slice hown9
        clear hnil9
        obtain ⟨z0,zf⟩:=hZ w3 w9 D3 hgrow9
        refine hK _ _ ?_
        clear hK K
        refine wpAny_ready (rs:=[7]) (by kernel_rfl) (by simp) ?_
        refine AllReady.cons rfl (fun K hK=>?_) ?_
        ·go_simp
         refine hK _ _ ?_
         clear hK K
         refine wpAny_done (by kernel_rfl) ?_ _
         exact hE _ _ _ DB3 TT hown9 hgrow9
        exact AllReady.nil
       exact AllReady.nil
      exact AllReady.nil
     exact AllReady.nil
    exact AllReady.nil
   exact AllReady.nil
  exact AllReady.nil
 case done =>
  rintro DD zs W hD hzs ⟨⟨⟨⟨us,v,hk,bv,hO⟩,bN1⟩,hB1⟩,hW1⟩ hK
  have rc:=bv.cell
  have HK2:Hid (us.map key=(mayL ts).map (tkey now)):=by show _=_; rw [hk,hzs]
  have O2:=hO.kept (grownBy_putObj' W DD (.deferred none)) (fun k cs T e hk=>by cases e; rw [hK] at hk; cases hk)
  obtain ⟨a2,g2,c2,rfl,hcc,hT⟩:=O2.at_
  clear hk hzs O2
  gi_wp2
  refine ⟨by simp,.inl ⟨_,_,rfl,run_takeDeferred hK,?_⟩⟩
  refine ⟨.slice a2 us.length c2,?_,us,a2,g2,c2,rfl,hcc,HK2.out,hT,hB1.trans (belowK_b (w:=w) (Nat.le_refl _) W DD _ _ (by omega) hK rfl rfl)⟩
  simp [results,Tryz.f101,go_sem]
 case stop =>
  rintro DD c pre W hD _ hf _
  exact hf.elim
end Go.Proofs.YtgjleeamhkolhaaGreatDoor
