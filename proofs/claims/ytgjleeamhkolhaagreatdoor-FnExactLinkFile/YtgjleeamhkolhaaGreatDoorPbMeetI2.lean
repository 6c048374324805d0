/- Joined texts: PbMeetI2. -/
import Derived.Test.YtgjleeamhkolhaaGreatDoorJ11
import Derived.Test.YtgjleeamhkolhaaGreatDoorJ01
namespace Go.Proofs.YtgjleeamhkolhaaGreatDoor
open Go.RowKit Go.Shelf
attribute [local go_sem] Oper.semAt_some
structure MeetI (w X:World) (t u:Tb) (B:Nat) (E:Int) (F:Nat) (st:Cl):Prop where
 all:MeetE w X t u B E
 first:Blk X F (clashC t.nm u.nm st) 127
 found:Blk X (F+1) #[.bool st.isSome] 4
theorem MeetE.set {w W:World} {t u:Tb} {B:Nat} {E:Int} (h:MeetE w W t u B E) {p:Addr} (hp:w.heap.size+1+1 < p.block) (hB:p.block≠B) (v:Value):MeetE w (W.setCell p v) t u B E:=⟨h.all.set hp v,h.ge,h.box.set hB v⟩
theorem MeetI.keep {w X Y:World} {t u:Tb} {B:Nat} {E:Int} {F:Nat} {st:Cl} (h:MeetI w X t u B E F st) (hb:Below X.heap.size X Y):MeetI w Y t u B E F st:=⟨h.all.keep hb,h.first.keep hb,h.found.keep hb⟩
theorem MeetI.put {w X:World} {t u:Tb} {B:Nat} {E:Int} {F:Nat} {st:Cl} (h:MeetI w X t u B E F st) (hF:w.heap.size+1+1 < F) (hB:B < F) (x:Int) (i j:Nat) :
  MeetI w ((((((X.setCell ⟨F,0,none⟩ (.string t.nm)).setCell ⟨F,1,none⟩ (.string u.nm)).setCell ⟨F,2,none⟩ (.int .i64 x)).setCell ⟨F,3,none⟩ (.int .i64 i)).setCell ⟨F,4,none⟩ (.int .i64 j)).setCell ⟨F+1,0,none⟩ (.bool true)) t u B E F (some (x,i,j)) where
 all:=by
  refine MeetE.set ?_ (by show _ < F+1; omega) (by show F+1≠B; omega) _
  iterate 5 (refine MeetE.set ?_ (by show _ < F; omega) (by show F≠B; omega) _)
  exact h.all
 first:=by
  obtain ⟨a,b,c,d,e,hc,_⟩:=clashC_some t.nm u.nm st
  have hb:=h.first
  unfold Blk at hb
  rw [hc] at hb
  exact (heap_setCell_other _ _ _ _ (by show F≠F+1; omega)).trans (blk5_set hb _ _ _ _ _)
 found:=by
  refine Blk.put1 (v:=.bool st.isSome) ?_ _
  iterate 5 (refine Blk.set ?_ (by show F≠F+1; omega) _)
  exact h.found
theorem others_below {W W':World} (h:Below W.heap.size W W'):KeepsOthers W W':=⟨h.size,fun k _ hk _=>(h.block k (Array.getElem?_eq_some_iff.1 hk).1).trans hk⟩
theorem others_put {X Y:World} (h:KeepsOthers X Y) (F:Nat) (a b c d e f:Value):KeepsOthers X ((((((Y.setCell ⟨F,0,none⟩ a).setCell ⟨F,1,none⟩ b).setCell ⟨F,2,none⟩ c).setCell ⟨F,3,none⟩ d).setCell ⟨F,4,none⟩ e).setCell ⟨F+1,0,none⟩ f):=
 (((((h.trans (KeepsOthers.setCell _ _ _)).trans (KeepsOthers.setCell _ _ _)).trans (KeepsOthers.setCell _ _ _)).trans (KeepsOthers.setCell _ _ _)).trans (KeepsOthers.setCell _ _ _)).trans (KeepsOthers.setCell _ _ _)
theorem keepP_put {Ba Bb:Nat} {X Y:World} (h:KeepP Ba Bb X Y) (F:Nat) (hF:F+1 < Ba) (hF':F+1 < Bb) (a b c d e f:Value):KeepP Ba Bb X ((((((Y.setCell ⟨F,0,none⟩ a).setCell ⟨F,1,none⟩ b).setCell ⟨F,2,none⟩ c).setCell ⟨F,3,none⟩ d).setCell ⟨F,4,none⟩ e).setCell ⟨F+1,0,none⟩ f):=by
 refine KeepP.set ?_ (by show F+1≠Ba; omega) (by show F+1≠Bb; omega) _
 iterate 5 (refine KeepP.set ?_ (by show F≠Ba; omega) (by show F≠Bb; omega) _)
 exact h
theorem blk_kept {X Y:World} {B n:Nat} {C:Array Value} {t:TypeId} {row:Option Nat} (h:Blk X B C t) (hg:X.grownBy Y row) (hr:∀ r,row=some r→n≤r∧∃ o:Obj,X.heap[r]? = some o∧o.isCells=false):Blk Y B C t:=
 (hg.block B h.lt (fun e'=>by obtain ⟨_,o,ho,hc⟩:=hr B e'.symm; rw [show X.heap[B]? = _ from h] at ho; cases ho; cases hc)).trans h
theorem meetI_own {β:Type} {w:World} {t u:Tb} {B:Nat} {E:Int} {F n:Nat} (hn:w.heap.size≤n) (_:B < n) (_:F < n) (f:β→Cl):OwnFrom n (fun (s:β) X=>MeetI w X t u B E F (f s)):=fun s X Y row hs hg hr =>
 ⟨⟨⟨hs.all.all.old.grown hg hs.all.all.old.size (fun k e=>by have:=(hr k e).1; omega),blk_kept hs.all.all.one hg hr,blk_kept hs.all.all.two hg hr,blk_kept hs.all.all.res hg hr⟩,hs.all.ge,blk_kept hs.all.box hg hr⟩,blk_kept hs.first hg hr,blk_kept hs.found hg hr⟩
theorem old_alloc2 {W:World} {B:Nat} (hB:B < W.heap.size):∀ (ob ob':Obj) (j:Nat),((W.alloc ob).alloc ob').cell? ⟨B,j,none⟩=W.cell? ⟨B,j,none⟩:=fun ob ob' j=>(bel2 ob ob').cell (p:=⟨B,j,none⟩) hB
set_option maxRecDepth 100000 in
set_option maxHeartbeats 8000000 in
theorem meetI_yes (t u:Tb) (w:World) (hl:t.l.length≤1048576) (hm:u.l.length≤1048576) (ht:TubeAt w t) (hu:TubeAt w u) (h1:tubeB t=true) (h2:tubeB u=true) :
  Calls Tryz.prog 128 #[t.val,u.val] w fun e w'=>e=.returned (.tuple #[.agg (clashC t.nm u.nm (meetTB t u)),.bool (meetTB t u).isSome])∧Below w.heap.size w w':=by
 have M0:=MeetB.new w t u
 have G:Hid (meetTB t u=meetOf t.l u.l (pairsN u.l.length t.l.length)):=meetTB_yes h1 h2
 have H1:Hid (tubeB t=true):=h1
 have H2:Hid (tubeB u=true):=h2
 clear h1 h2
 have hfd1:=fun wx=>lane_field t.nm t.a t.l.length t.cap wx
 have hfd2:=fun wx=>lane_field u.nm u.a u.l.length u.cap wx
 refine (callsIn_wide (n:=4)).1 ?_
 refine callsIn_of_wp_marks Tryz.func128 rfl trivial ?_ rfl
 simp only [Tryz.ntmps128,List.size_toArray,List.length_cons,List.length_nil,Nat.reduceAdd,Nat.reduceSub,Array.replicate_succ,Array.replicate_zero,List.push_toArray,List.append_toArray,List.nil_append,List.cons_append]
 refine wpIn_wide.2 ?_
 go_wp2_with fail
 refine (tubeOk_val t true _ hl (ht.below (bel3 _ _ _)) H1.out).mono ?_
 rintro e w1 ⟨rfl,hb1⟩
 have M1:=M0.keep hb1
 obtain ⟨_,_,c0,c1⟩:=M1.cells
 clear M0 hb1
 go_wp2_with fail
 refine (tubeOk_val u true _ hm (hu.below M1.old) H2.out).mono ?_
 rintro e w2 ⟨rfl,hb2⟩
 have M2:=M1.keep hb2
 clear M1 hb2 c0 c1
 have M3:MeetB w w2.drew t u:=M2.keep ((Below.refl _ _).drew)
 obtain ⟨c0,c1,c2,c3⟩:=M2.cells
 go_wp2
 rename_i K aK
 have hrest:∀ (B:Nat) (E:Int) (W:World),MeetE w W t u B E→max (beginB t.l) (beginB u.l)=E→K { tmps:=#[t.val,u.val,.pointer (some ⟨w.heap.size,0,none⟩),.pointer (some ⟨w.heap.size+1,0,none⟩),.pointer (some ⟨w.heap.size+1+1,0,none⟩),.bool false,.pointer (some ⟨B,0,none⟩),undef,undef,undef,undef,undef,undef,.agg #[.string t.nm,.slice t.a t.l.length t.cap],.bool true,.bool false,.bool false,.agg #[.string u.nm,.slice u.a u.l.length u.cap],.bool true,.bool false,.bool false,undef,.agg #[.string t.nm,.slice t.a t.l.length t.cap],.agg #[.string t.nm,.slice t.a t.l.length t.cap],.slice t.a t.l.length t.cap,.int .i64 (beginB t.l),.agg #[.string u.nm,.slice u.a u.l.length u.cap],.agg #[.string u.nm,.slice u.a u.l.length u.cap],.slice u.a u.l.length u.cap,.int .i64 (beginB u.l),.int .i64 E,undef,undef,undef,undef,undef,undef,undef,undef,undef,undef,undef,undef,undef,undef,undef,undef,undef,undef,undef,undef,undef,undef,undef,undef,undef,undef,undef,undef,undef,undef,undef,undef,undef,undef,undef,undef,undef,undef,undef,undef,undef,undef,undef,undef,undef],defers:=[] } W:=by
  clear M2 M3 c0 c1 c2 c3
  intro B E W D hE'
  refine aK _ _ ?_
  clear aK
  have HE':Hid (max (beginB t.l) (beginB u.l)=E):=hE'
  clear hE'
  obtain ⟨d0,d1,d2,d3⟩:=D.cells
  have n0:=old_alloc D.all.one.lt
  have n1:=old_alloc D.all.two.lt
  have n2:=old_alloc2 D.all.one.lt
  have n3:=old_alloc2 D.all.two.lt
  go_wp2_with (go_at_call 153; refine ((callsIn_wide (n:=4)).1 (bp_in 4 _ _ _ _ _ _ _)).mono ?_; rintro e w9 ⟨rfl,rfl⟩)
  rename_i K2 aK2
  have Z:=D.all.lt
  have ZB:=D.ge
  have ZBl:=D.box.lt
  have D0:=(D.keep (bel1 (.cells #[.string ⟨#[]⟩,.string ⟨#[]⟩,.int .i64 0,.int .i64 0,.int .i64 0] 127))).keep (bel1 (.cells #[.bool false] 4))
  have bF0:=(Blk.new W #[.string ⟨#[]⟩,.string ⟨#[]⟩,.int .i64 0,.int .i64 0,.int .i64 0] 127).keep (bel1 (.cells #[.bool false] 4))
  have bG0:=Blk.new (W.alloc (.cells #[.string ⟨#[]⟩,.string ⟨#[]⟩,.int .i64 0,.int .i64 0,.int .i64 0] 127)) #[.bool false] 4
  have bA0:=Blk.new ((W.alloc (.cells #[.string ⟨#[]⟩,.string ⟨#[]⟩,.int .i64 0,.int .i64 0,.int .i64 0] 127)).alloc (.cells #[.bool false] 4)) #[.slice t.a t.l.length t.cap] 130
  have bC0:=Blk.new (((W.alloc (.cells #[.string ⟨#[]⟩,.string ⟨#[]⟩,.int .i64 0,.int .i64 0,.int .i64 0] 127)).alloc (.cells #[.bool false] 4)).alloc (.cells #[.slice t.a t.l.length t.cap] 130)) #[.slice u.a u.l.length u.cap] 130
  have K3:=bel2 (w:=(W.alloc (.cells #[.string ⟨#[]⟩,.string ⟨#[]⟩,.int .i64 0,.int .i64 0,.int .i64 0] 127)).alloc (.cells #[.bool false] 4)) (.cells #[.slice t.a t.l.length t.cap] 130) (.cells #[.slice u.a u.l.length u.cap] 130)
  have D1:=D0.keep K3
  have bF1:=bF0.keep K3
  have bG1:=bG0.keep K3
  have bA1:=bA0.keep (bel1 (.cells #[.slice u.a u.l.length u.cap] 130))
  have sz0:((((W.alloc (.cells #[.string ⟨#[]⟩,.string ⟨#[]⟩,.int .i64 0,.int .i64 0,.int .i64 0] 127)).alloc (.cells #[.bool false] 4)).alloc (.cells #[.slice t.a t.l.length t.cap] 130)).alloc (.cells #[.slice u.a u.l.length u.cap] 130)).heap.size=W.heap.size+4:=by simp
  simp only [World.size_alloc] at bG1 bA1 bC0
  clear D0 bF0 bG0 bA0 K3 n0 n1 n2 n3 d0 d1 d2 d3 D
  generalize (((W.alloc (.cells #[.string ⟨#[]⟩,.string ⟨#[]⟩,.int .i64 0,.int .i64 0,.int .i64 0] 127)).alloc (.cells #[.bool false] 4)).alloc (.cells #[.slice t.a t.l.length t.cap] 130)).alloc (.cells #[.slice u.a u.l.length u.cap] 130)=W0 at *
  have hfin:∀ (Dn:Nat) (X:World) (st:Cl),W0.heap.size≤Dn→meetOf t.l u.l (pairsN u.l.length t.l.length)=st→MeetI w X t u B E W.heap.size st→X.heap[Dn]? = some (.deferred (some []))→K2 { tmps:=#[t.val,u.val,.pointer (some ⟨w.heap.size,0,none⟩),.pointer (some ⟨w.heap.size+1,0,none⟩),.pointer (some ⟨w.heap.size+1+1,0,none⟩),.bool false,.pointer (some ⟨B,0,none⟩),.pointer (some ⟨W.heap.size,0,none⟩),.pointer (some ⟨W.heap.size+1,0,none⟩),undef,undef,undef,undef,.agg #[.string t.nm,.slice t.a t.l.length t.cap],.bool true,.bool false,.bool false,.agg #[.string u.nm,.slice u.a u.l.length u.cap],.bool true,.bool false,.bool false,undef,.agg #[.string t.nm,.slice t.a t.l.length t.cap],.agg #[.string t.nm,.slice t.a t.l.length t.cap],.slice t.a t.l.length t.cap,.int .i64 (beginB t.l),.agg #[.string u.nm,.slice u.a u.l.length u.cap],.agg #[.string u.nm,.slice u.a u.l.length u.cap],.slice u.a u.l.length u.cap,.int .i64 (beginB u.l),.int .i64 E,.pointer (some ⟨w.heap.size,1,none⟩),.slice t.a t.l.length t.cap,.pointer (some ⟨w.heap.size+1,1,none⟩),.slice u.a u.l.length u.cap,.func (.func 168) #[] #[.pointer (some ⟨W.heap.size+1+1,0,none⟩),.pointer (some ⟨W.heap.size+1+1+1,0,none⟩)],undef,undef,undef,undef,undef,undef,undef,undef,undef,undef,undef,undef,undef,undef,undef,undef,undef,undef,undef,undef,undef,undef,undef,undef,undef,undef,undef,undef,undef,undef,undef,undef,undef,undef,undef,undef,undef,undef,undef,undef],defers:=[{ target:=.collected Dn,args:=#[] }] } X:=by
   intro Dn X st hD hst hI hK4
   have HST:Hid (meetTB t u=st):=G.out.trans hst
   clear hst
   refine aK2 _ _ ?_
   obtain ⟨g0,gf⟩:=hI.found.one
   have HB:=hI.all.all.old
   have hr:=hI.all.all.res
   have hfst:=hI.first
   obtain ⟨r0,r1,r2,r3,r4,rf⟩:=blk5 hr
   cases st with
   | none =>
    obtain ⟨b0,b1,b2,b3,b4,bf⟩:=blk5 (show X.heap[W.heap.size]? = some (.cells #[.string ⟨#[]⟩,.string ⟨#[]⟩,.int .i64 0,.int .i64 0,.int .i64 0] 127 (0,0)) from hfst)
    clear hfst hI
    go_wp2
    go_region_held3 (fun w'=>w'.cell? ⟨W.heap.size,0,none⟩=some (.string ⟨#[]⟩)∧w'.cell? ⟨W.heap.size,1,none⟩=some (.string ⟨#[]⟩)∧w'.cell? ⟨W.heap.size,2,none⟩=some (.int .i64 0)∧w'.cell? ⟨W.heap.size,3,none⟩=some (.int .i64 0)∧w'.cell? ⟨W.heap.size,4,none⟩=some (.int .i64 0)∧w'.cell? ⟨W.heap.size+1,0,none⟩=some (.bool (Option.isSome (none:Cl))))
     (simp [go_sem, *])
     (fail)
    have hY:=blk5_set hr (.string ⟨#[]⟩) (.string ⟨#[]⟩) (.int .i64 0) (.int .i64 0) (.int .i64 0)
    have hK5:(((((X.setCell ⟨w.heap.size+1+1,0,none⟩ (.string ⟨#[]⟩)).setCell ⟨w.heap.size+1+1,1,none⟩ (.string ⟨#[]⟩)).setCell ⟨w.heap.size+1+1,2,none⟩ (.int .i64 0)).setCell ⟨w.heap.size+1+1,3,none⟩ (.int .i64 0)).setCell ⟨w.heap.size+1+1,4,none⟩ (.int .i64 0)).heap[Dn]? = some (.deferred (some [])):=by
     iterate 5 rw [heap_setCell_other _ _ _ _ (by show Dn≠w.heap.size+1+1; omega)]
     exact hK4
    have HBY:Below w.heap.size w (((((X.setCell ⟨w.heap.size+1+1,0,none⟩ (.string ⟨#[]⟩)).setCell ⟨w.heap.size+1+1,1,none⟩ (.string ⟨#[]⟩)).setCell ⟨w.heap.size+1+1,2,none⟩ (.int .i64 0)).setCell ⟨w.heap.size+1+1,3,none⟩ (.int .i64 0)).setCell ⟨w.heap.size+1+1,4,none⟩ (.int .i64 0)):=by
     iterate 5 (refine Below.setCell ?_ (by simp; omega) _)
     exact HB
    clear b0 b1 b2 b3 b4 bf r0 r1 r2 r3 r4 rf g0 gf hr hK4 HB
    generalize (((((X.setCell ⟨w.heap.size+1+1,0,none⟩ (.string ⟨#[]⟩)).setCell ⟨w.heap.size+1+1,1,none⟩ (.string ⟨#[]⟩)).setCell ⟨w.heap.size+1+1,2,none⟩ (.int .i64 0)).setCell ⟨w.heap.size+1+1,3,none⟩ (.int .i64 0)).setCell ⟨w.heap.size+1+1,4,none⟩ (.int .i64 0))=Y at *
    have hY2:(Y.drew.putObj Dn (.deferred none)).heap[w.heap.size+1+1]? = some (.cells #[.string ⟨#[]⟩,.string ⟨#[]⟩,.int .i64 0,.int .i64 0,.int .i64 0] 127 (0,0)):=(World.putObj_heap_other (by omega)).trans hY
    obtain ⟨y0,y1,y2,y3,y4,yf⟩:=blk5 hY2
    go_wp2
    refine ⟨by simp,.inl ⟨_,_,rfl,run_takeDeferred (w:=Y.drew) hK5,?_⟩⟩
    refine ⟨.tuple #[.agg #[.string ⟨#[]⟩,.string ⟨#[]⟩,.int .i64 0,.int .i64 0,.int .i64 0],.bool false],?_,by rw [HST.out]; rfl,(HBY.drew).trans (belowK_b (w:=w) (Nat.le_refl _) Y.drew Dn _ _ (by omega) hK5 rfl rfl)⟩
    simp [results,Tryz.f128,go_sem,y0,y1,y2,y3,y4]
   | some z =>
    obtain ⟨zt,zi,zj⟩:=z
    obtain ⟨b0,b1,b2,b3,b4,bf⟩:=blk5 (show X.heap[W.heap.size]? = some (.cells #[.string t.nm,.string u.nm,.int .i64 zt,.int .i64 zi,.int .i64 zj] 127 (0,0)) from hfst)
    clear hfst hI
    go_wp2
    go_region_held3 (fun w'=>w'.cell? ⟨W.heap.size,0,none⟩=some (.string t.nm)∧w'.cell? ⟨W.heap.size,1,none⟩=some (.string u.nm)∧w'.cell? ⟨W.heap.size,2,none⟩=some (.int .i64 zt)∧w'.cell? ⟨W.heap.size,3,none⟩=some (.int .i64 zi)∧w'.cell? ⟨W.heap.size,4,none⟩=some (.int .i64 zj)∧w'.cell? ⟨W.heap.size+1,0,none⟩=some (.bool (Option.isSome (some (zt,zi,zj):Cl))))
     (simp [go_sem, *])
     (fail)
    have hY:=blk5_set hr (.string t.nm) (.string u.nm) (.int .i64 zt) (.int .i64 zi) (.int .i64 zj)
    have hK5:(((((X.setCell ⟨w.heap.size+1+1,0,none⟩ (.string t.nm)).setCell ⟨w.heap.size+1+1,1,none⟩ (.string u.nm)).setCell ⟨w.heap.size+1+1,2,none⟩ (.int .i64 zt)).setCell ⟨w.heap.size+1+1,3,none⟩ (.int .i64 zi)).setCell ⟨w.heap.size+1+1,4,none⟩ (.int .i64 zj)).heap[Dn]? = some (.deferred (some [])):=by
     iterate 5 rw [heap_setCell_other _ _ _ _ (by show Dn≠w.heap.size+1+1; omega)]
     exact hK4
    have HBY:Below w.heap.size w (((((X.setCell ⟨w.heap.size+1+1,0,none⟩ (.string t.nm)).setCell ⟨w.heap.size+1+1,1,none⟩ (.string u.nm)).setCell ⟨w.heap.size+1+1,2,none⟩ (.int .i64 zt)).setCell ⟨w.heap.size+1+1,3,none⟩ (.int .i64 zi)).setCell ⟨w.heap.size+1+1,4,none⟩ (.int .i64 zj)):=by
     iterate 5 (refine Below.setCell ?_ (by simp; omega) _)
     exact HB
    clear b0 b1 b2 b3 b4 bf r0 r1 r2 r3 r4 rf g0 gf hr hK4 HB
    generalize (((((X.setCell ⟨w.heap.size+1+1,0,none⟩ (.string t.nm)).setCell ⟨w.heap.size+1+1,1,none⟩ (.string u.nm)).setCell ⟨w.heap.size+1+1,2,none⟩ (.int .i64 zt)).setCell ⟨w.heap.size+1+1,3,none⟩ (.int .i64 zi)).setCell ⟨w.heap.size+1+1,4,none⟩ (.int .i64 zj))=Y at *
    have hY2:(Y.drew.putObj Dn (.deferred none)).heap[w.heap.size+1+1]? = some (.cells #[.string t.nm,.string u.nm,.int .i64 zt,.int .i64 zi,.int .i64 zj] 127 (0,0)):=(World.putObj_heap_other (by omega)).trans hY
    obtain ⟨y0,y1,y2,y3,y4,yf⟩:=blk5 hY2
    go_wp2
    refine ⟨by simp,.inl ⟨_,_,rfl,run_takeDeferred (w:=Y.drew) hK5,?_⟩⟩
    refine ⟨.tuple #[.agg #[.string t.nm,.string u.nm,.int .i64 zt,.int .i64 zi,.int .i64 zj],.bool true],?_,by rw [HST.out]; rfl,(HBY.drew).trans (belowK_b (w:=w) (Nat.le_refl _) Y.drew Dn _ _ (by omega) hK5 rfl rfl)⟩
    simp [results,Tryz.f128,go_sem,y0,y1,y2,y3,y4]
  refine (wpIn_wide (n:=4)).1 ?_
  refine wpIn_rangeFunc_ownH rfl (by omega) (gf:=168) (lb:=#[.pointer (some ⟨W.heap.size+1+1,0,none⟩),.pointer (some ⟨W.heap.size+1+1+1,0,none⟩)]) rfl trivial (enters_of Tryz.func168 (by kernel_rfl) rfl)
   (bp_stops _ (by omega) (W.heap.size+1+1) (W.heap.size+1+1+1) t.l.length u.l.length t.cap u.cap t.a u.a hl hm W0 (by omega) (by omega) bA1.one.1 bC0.one.1) KeepP.trans (KeepP.putObj (by omega) (by omega)) (Below.refl _ _) (fun _=>rfl)
   (fun pre X=>MeetI w X t u B E W.heap.size (meetOf t.l u.l (pre.map vp)))
   (fun c pre X=>(c=.exit 0∧∃ z,meetOf t.l u.l (pre.map vp)=some z∧z.1≤E)∧MeetI w X t u B E W.heap.size (meetOf t.l u.l (pre.map vp)))
   (meetI_own (by have:=D1.all.old.size; omega) (by omega) (by omega) (fun pre=>meetOf t.l u.l (List.map vp pre)))
   (fun c=>OwnFrom.and (ownFrom_pure _ _) (meetI_own (by have:=D1.all.old.size; omega) (by omega) (by omega) (fun pre=>meetOf t.l u.l (List.map vp pre))))
   ⟨D1,bF1,bG1⟩
   (fun x a' X=>a' = { tmps:=#[t.val,u.val,.pointer (some ⟨w.heap.size,0,none⟩),.pointer (some ⟨w.heap.size+1,0,none⟩),.pointer (some ⟨w.heap.size+1+1,0,none⟩),.bool false,.pointer (some ⟨B,0,none⟩),.pointer (some ⟨W.heap.size,0,none⟩),.pointer (some ⟨W.heap.size+1,0,none⟩),.int .i64 x.1.val,.int .i64 x.2.val,undef,undef,.agg #[.string t.nm,.slice t.a t.l.length t.cap],.bool true,.bool false,.bool false,.agg #[.string u.nm,.slice u.a u.l.length u.cap],.bool true,.bool false,.bool false,undef,.agg #[.string t.nm,.slice t.a t.l.length t.cap],.agg #[.string t.nm,.slice t.a t.l.length t.cap],.slice t.a t.l.length t.cap,.int .i64 (beginB t.l),.agg #[.string u.nm,.slice u.a u.l.length u.cap],.agg #[.string u.nm,.slice u.a u.l.length u.cap],.slice u.a u.l.length u.cap,.int .i64 (beginB u.l),.int .i64 E,.pointer (some ⟨w.heap.size,1,none⟩),.slice t.a t.l.length t.cap,.pointer (some ⟨w.heap.size+1,1,none⟩),.slice u.a u.l.length u.cap,.func (.func 168) #[] #[.pointer (some ⟨W.heap.size+1+1,0,none⟩),.pointer (some ⟨W.heap.size+1+1+1,0,none⟩)],.int .i64 x.1.val,.int .i64 x.2.val,undef,undef,undef,undef,undef,undef,undef,undef,undef,undef,undef,undef,undef,undef,undef,undef,undef,undef,undef,undef,undef,undef,undef,undef,undef,undef,undef,undef,undef,undef,undef,undef,undef,undef,undef,undef,undef,undef],defers:=[] })
   (fun x a' _ X Y row hs' hg hr=>hs')
   ?assign ?body ?done ?stop
  case assign =>
   rintro lp pre x X K4 hI hK4
   gi_wp2
   exact hK4 _ _ (KeepsFrom.refl _ _) (KeepP.refl _ _ _) hI rfl
  case body =>
   rintro lp pre x a' X hlp ⟨lr,hlr⟩ hI rfl hlt
   have hX:W.heap.size+4≤X.heap.size:=by have:=(Array.getElem?_eq_some_iff.1 hlr).1; omega
   clear hlr
   obtain ⟨i,hi⟩:∃ i,x.1.val=i:=⟨_,rfl⟩
   obtain ⟨j,hj⟩:∃ j,x.2.val=j:=⟨_,rfl⟩
   have hil:i < t.l.length:=by rw [← hi]; exact x.1.isLt
   have hjl:j < u.l.length:=by rw [← hj]; exact x.2.isLt
   have HPR:Hid (meetOf t.l u.l ((pre ++ [x]).map vp)=meetStep t.l u.l (meetOf t.l u.l (pre.map vp)) (i,j)):=by show _=_; rw [List.map_append,← hi,← hj]; exact meetOf_snoc _ _ _ _
   have HIN:Hid (∀ Y st,meetOf t.l u.l ((pre ++ [x]).map vp)=st→MeetI w Y t u B E W.heap.size st→MeetI w Y t u B E W.heap.size (meetOf t.l u.l ((pre ++ [x]).map vp))):=fun Y st h h'=>by rw [h]; exact h'
   rw [hi,hj]
   obtain ⟨s,hsk⟩:∃ s,t.l[i]? = some s:=⟨t.l[i],List.getElem?_eq_getElem hil⟩
   obtain ⟨v,hvk⟩:∃ v,u.l[j]? = some v:=⟨u.l[j],List.getElem?_eq_getElem hjl⟩
   have hne:t.l≠[]:=by intro e; rw [e] at hil; simp at hil
   have hne':u.l≠[]:=by intro e; rw [e] at hjl; simp at hjl
   have hbi:=hI.all.all.old
   have hsX:=(ht.below hbi).at_
   have hvX:=(hu.below hbi).at_
   have ea:=hsX.here hne
   have eb:=hvX.here hne'
   have hbx:=hsX.lt hne
   have hbx':=hvX.lt hne'
   obtain ⟨x0,x1,x2,x3,x4,x5⟩:=hsX.six hsk
   obtain ⟨y0,y1,y2,y3,y4,y5⟩:=hvX.six hvk
   obtain ⟨c0,c1,c2,c3⟩:=hI.all.cells
   have HS:Hid (bxAt t.l i=s):=bxAt_get hsk
   have HV:Hid (bxAt u.l j=v):=bxAt_get hvk
   have i0:(0:Int)≤(i:Int):=by omega
   have i1:(i:Int) < (t.l.length:Int):=by omega
   have j0:(0:Int)≤(j:Int):=by omega
   have j1:(j:Int) < (u.l.length:Int):=by omega
   have qn:=Cls.any X
   have q0:=Cls.cell hbx
   have q1:=Cls.cell hbx'
   have q2:=Cls.cell hI.all.all.one.lt
   have q3:=Cls.cell hI.all.all.two.lt
   clear hsk hvk hsX hvX hi hj
   have HSTP:Hid (meetOf t.l u.l (pre.map vp)=meetOf t.l u.l (pre.map vp)):=rfl
   clear HSTP
   obtain ⟨st,hst⟩:∃ st,meetOf t.l u.l (pre.map vp)=st:=⟨_,rfl⟩
   rw [hst] at hI HPR
   clear hst
   cases hc:closeB s v with
   | false =>
    have HN:Hid (meetOf t.l u.l ((pre ++ [x]).map vp)=st):=by show _=_; rw [HPR.out]; exact step_no1 (by show closeB (bxAt t.l i) (bxAt u.l j)=false; rw [HS.out,HV.out,hc])
    have HC:Hid (closeB s v=false):=hc
    have CL:∀ uu:Cls X,Calls Tryz.prog 154 #[s.val,v.val] uu.it fun e w'=>e=.returned (.tuple #[.int .i64 (closeT s v),.bool false])∧Below uu.it.heap.size uu.it w':=fun uu=>by rw [← HC.out]; exact close_any s v _
    clear hc
    generalize closeT s v=ct at *
    gi_wp2
    refine wpIn_region_cls (by kernel_rfl) (by kernel_rfl) (by kernel_rfl) (by rintro ⟨a,w,h,_⟩) ?_
    repeat (go_big_quiet_step ((go_at_call 154; exact Calls.cls_of (CL _))))
    refine wpQuiet_nil ?_
    rintro _ ⟨uu,rfl⟩
    have I1:=hI.keep uu.same
    have KO:=others_below uu.same
    have KP:=KeepP.below (Ba:=W.heap.size+1+1) (Bb:=W.heap.size+1+1+1) (by omega) (by omega) uu.same
    clear x0 x1 x2 x3 x4 x5 y0 y1 y2 y3 y4 y5 c0 c1 c2 c3 q0 q1 q2 q3 qn CL ea eb
    generalize uu.it=Y at *
    gi_wp2
    have HQ:=HIN.out _ _ HN.out I1
    exact ⟨KO.from _,KP,HQ⟩
   | true =>
    have HC:Hid (closeB s v=true):=hc
    have CL:∀ uu:Cls X,Calls Tryz.prog 154 #[s.val,v.val] uu.it fun e w'=>e=.returned (.tuple #[.int .i64 (closeT s v),.bool true])∧Below uu.it.heap.size uu.it w':=fun uu=>by rw [← HC.out]; exact close_any s v _
    have HY1:Hid (st=none→meetOf t.l u.l ((pre ++ [x]).map vp)=some (closeT s v,i,j)):=fun e=>by rw [HPR.out,e,step_yes1 (p:=(i,j)) (by show closeB (bxAt t.l i) (bxAt u.l j)=true; rw [HS.out,HV.out,HC.out])]; simp only; rw [HS.out,HV.out]
    have HY2:Hid (∀ z,st=some z→closeT s v < z.1→meetOf t.l u.l ((pre ++ [x]).map vp)=some (closeT s v,i,j)):=fun z e hz=>by rw [HPR.out,e,step_yes2 (p:=(i,j)) (by show closeB (bxAt t.l i) (bxAt u.l j)=true; rw [HS.out,HV.out,HC.out]) (by show closeT (bxAt t.l i) (bxAt u.l j) < _; rw [HS.out,HV.out]; exact hz)]; simp only; rw [HS.out,HV.out]
    have HY3:Hid (∀ z,st=some z→z.1≤closeT s v→meetOf t.l u.l ((pre ++ [x]).map vp)=some z):=fun z e hz=>by rw [HPR.out,e]; exact step_no2 (by show _≤closeT (bxAt t.l i) (bxAt u.l j); rw [HS.out,HV.out]; exact hz)
    clear hc
    generalize closeT s v=ct at *
    cases st with
    | none =>
     have HN:Hid (meetOf t.l u.l ((pre ++ [x]).map vp)=some (ct,i,j)):=HY1.out rfl
     gi_wp2
     refine wpIn_region_cls (by kernel_rfl) (by kernel_rfl) (by kernel_rfl) (by rintro ⟨a,w,h,_⟩) ?_
     repeat (go_big_quiet_step ((go_at_call 154; exact Calls.cls_of (CL _))))
     refine wpQuiet_nil ?_
     rintro _ ⟨uu,rfl⟩
     have I1:=hI.keep uu.same
     have KO:=others_below uu.same
     have KP:=KeepP.below (Ba:=W.heap.size+1+1) (Bb:=W.heap.size+1+1+1) (by omega) (by omega) uu.same
     clear x0 x1 x2 x3 x4 x5 y0 y1 y2 y3 y4 y5 c0 c1 c2 c3 q0 q1 q2 q3 qn CL ea eb
     generalize uu.it=Y at *
     obtain ⟨f0,f1,f2,f3,f4,ff⟩:=blk5 I1.first
     obtain ⟨g0,gf⟩:=I1.found.one
     obtain ⟨e0,ef⟩:=I1.all.box.one
     obtain ⟨c0,c1,c2,c3⟩:=I1.all.cells
     have HP2:=I1.put (by omega) (by omega) ct i j
     have KO2:=others_put KO W.heap.size (.string t.nm) (.string u.nm) (.int .i64 ct) (.int .i64 i) (.int .i64 j) (.bool true)
     have KP2:=keepP_put KP W.heap.size (by omega) (by omega) (.string t.nm) (.string u.nm) (.int .i64 ct) (.int .i64 i) (.int .i64 j) (.bool true)
     have e1:(Y.setCell ⟨W.heap.size,0,none⟩ (.string t.nm)).cell? ⟨B,0,none⟩=some (.int .i64 E):=(I1.all.set (p:=⟨W.heap.size,0,none⟩) (by show _ < W.heap.size; omega) (by show W.heap.size≠B; omega) _).box.one.1
     have e6:=HP2.all.box.one.1
     by_cases hE:ct=E
     ·have hE':(ct == E)=true:=by simpa using hE
      have HZ:Hid (ct≤E):=by show _≤_; omega
      clear hE
      gi_wp2
      have HQ:=HIN.out _ _ HN.out HP2
      exact ⟨KO2.from _,⟨rfl,(ct,i,j),HN.out,HZ.out⟩,HQ⟩
     ·have hE':(ct == E)=false:=by simpa using hE
      clear hE
      gi_wp2
      have HQ:=HIN.out _ _ HN.out HP2
      exact ⟨KO2.from _,KP2,HQ⟩
    | some z =>
     obtain ⟨zt,zi,zj⟩:=z
     by_cases hz:zt≤ct
     ·have HN:Hid (meetOf t.l u.l ((pre ++ [x]).map vp)=some (zt,zi,zj)):=HY3.out _ rfl hz
      gi_wp2
      refine wpIn_region_cls (by kernel_rfl) (by kernel_rfl) (by kernel_rfl) (by rintro ⟨a,w,h,_⟩) ?_
      repeat (go_big_quiet_step ((go_at_call 154; exact Calls.cls_of (CL _))))
      refine wpQuiet_nil ?_
      rintro _ ⟨uu,rfl⟩
      have I1:=hI.keep uu.same
      have KO:=others_below uu.same
      have KP:=KeepP.below (Ba:=W.heap.size+1+1) (Bb:=W.heap.size+1+1+1) (by omega) (by omega) uu.same
      clear x0 x1 x2 x3 x4 x5 y0 y1 y2 y3 y4 y5 c0 c1 c2 c3 q0 q1 q2 q3 qn CL ea eb
      generalize uu.it=Y at *
      obtain ⟨f0,f1,f2,f3,f4,ff⟩:=blk5 I1.first
      obtain ⟨g0,gf⟩:=I1.found.one
      obtain ⟨e0,ef⟩:=I1.all.box.one
      obtain ⟨c0,c1,c2,c3⟩:=I1.all.cells
      gi_wp2
      have HQ:=HIN.out _ _ HN.out I1
      exact ⟨KO.from _,KP,HQ⟩
     ·have HN:Hid (meetOf t.l u.l ((pre ++ [x]).map vp)=some (ct,i,j)):=HY2.out _ rfl (by show ct < zt; omega)
      have hz':decide (zt≤ct)=false:=by simpa using hz
      clear hz
      gi_wp2
      refine wpIn_region_cls (by kernel_rfl) (by kernel_rfl) (by kernel_rfl) (by rintro ⟨a,w,h,_⟩) ?_
      repeat (go_big_quiet_step ((go_at_call 154; exact Calls.cls_of (CL _))))
      refine wpQuiet_nil ?_
      rintro _ ⟨uu,rfl⟩
      have I1:=hI.keep uu.same
      have KO:=others_below uu.same
      have KP:=KeepP.below (Ba:=W.heap.size+1+1) (Bb:=W.heap.size+1+1+1) (by omega) (by omega) uu.same
      clear x0 x1 x2 x3 x4 x5 y0 y1 y2 y3 y4 y5 c0 c1 c2 c3 q0 q1 q2 q3 qn CL ea eb
      generalize uu.it=Y at *
      have f2:=(blk5 I1.first).2.2.1
      have ff:=(blk5 I1.first).2.2.2.2.2
      obtain ⟨q0,f0⟩:∃ q,Y.cell? ⟨W.heap.size,0,none⟩=some q:=⟨_,(blk5 I1.first).1⟩
      obtain ⟨q1,f1⟩:∃ q,Y.cell? ⟨W.heap.size,1,none⟩=some q:=⟨_,(blk5 I1.first).2.1⟩
      obtain ⟨q3,f3⟩:∃ q,Y.cell? ⟨W.heap.size,3,none⟩=some q:=⟨_,(blk5 I1.first).2.2.2.1⟩
      obtain ⟨q4,f4⟩:∃ q,Y.cell? ⟨W.heap.size,4,none⟩=some q:=⟨_,(blk5 I1.first).2.2.2.2.1⟩
      obtain ⟨g0,gf⟩:=I1.found.one
      obtain ⟨e0,ef⟩:=I1.all.box.one
      obtain ⟨c0,c1,c2,c3⟩:=I1.all.cells
      have HP2:=I1.put (by omega) (by omega) ct i j
      have KO2:=others_put KO W.heap.size (.string t.nm) (.string u.nm) (.int .i64 ct) (.int .i64 i) (.int .i64 j) (.bool true)
      have KP2:=keepP_put KP W.heap.size (by omega) (by omega) (.string t.nm) (.string u.nm) (.int .i64 ct) (.int .i64 i) (.int .i64 j) (.bool true)
      have e1:(Y.setCell ⟨W.heap.size,0,none⟩ (.string t.nm)).cell? ⟨B,0,none⟩=some (.int .i64 E):=(I1.all.set (p:=⟨W.heap.size,0,none⟩) (by show _ < W.heap.size; omega) (by show W.heap.size≠B; omega) _).box.one.1
      have e6:=HP2.all.box.one.1
      by_cases hE:ct=E
      ·have hE':(ct == E)=true:=by simpa using hE
       have HZ:Hid (ct≤E):=by show _≤_; omega
       clear hE
       gi_wp2
       have HQ:=HIN.out _ _ HN.out HP2
       exact ⟨KO2.from _,⟨rfl,(ct,i,j),HN.out,HZ.out⟩,HQ⟩
      ·have hE':(ct == E)=false:=by simpa using hE
       clear hE
       gi_wp2
       have HQ:=HIN.out _ _ HN.out HP2
       exact ⟨KO2.from _,KP2,HQ⟩
  case done =>
   rintro Dn zs X hD hzs hI hK4
   exact hfin Dn X _ hD (by rw [← hzs]) hI hK4
  case stop =>
   rintro Dn c pre X hD ⟨post,hpost⟩ ⟨⟨rfl,z,hz,hzE⟩,hI⟩ hK4
   gi_wp2
   refine hfin Dn X _ hD ?_ hI hK4
   rw [hz,hpost]
   exact meet_early (fun p hp=>pairsN_mem (by rw [hpost]; exact hp)) hz (by rw [HE'.out]; exact hzE)
 go_region_held3 (fun w'=>w'.cell? ⟨w.heap.size,0,none⟩=some (.string t.nm)∧w'.cell? ⟨w.heap.size,1,none⟩=some (.slice t.a t.l.length t.cap)∧w'.cell? ⟨w.heap.size+1,0,none⟩=some (.string u.nm)∧w'.cell? ⟨w.heap.size+1,1,none⟩=some (.slice u.a u.l.length u.cap))
  (first | exact M7.cells | exact M6.cells | exact M5.cells | exact M4.cells | exact M3.cells | exact (M7.keep (bel1 _)).cells | exact (M6.keep (bel1 _)).cells | exact (M5.keep (bel1 _)).cells | exact (M4.keep (bel1 _)).cells | exact (M3.keep (bel1 _)).cells | exact (M7.put _).cells)
  (first
   | (go_at_call 152; have hz:=hb6; clear hz; refine (begin_any _ u.b u.o _ u.l _ hm (by first | exact (hu.below M6.old).at_ | exact (hu.below M6.all.old).at_ | exact (hu.below (M6.keep (bel1 _)).old).at_)).mono ?_; rintro e w7 ⟨rfl,hb7⟩; first | (have M7:=M6.keep hb7; try (have zc:=M7.box.one.1; have zf:=M7.box.one.2)) | (have M7:=(MeetE.new M6 0).keep hb7; have zc:=M7.box.one.1; have zf:=M7.box.one.2))
   | (go_at_call 151; have hz:=hb5; clear hz; refine (lane_at u.nm u.a u.cap u.l _).mono ?_; rintro e w6 ⟨rfl,hb6⟩; first | (have M6:=M5.keep hb6; try (have zc:=M6.box.one.1; have zf:=M6.box.one.2)) | (have M6:=(MeetE.new M5 0).keep hb6; have zc:=M6.box.one.1; have zf:=M6.box.one.2))
   | (go_at_call 152; refine (begin_any _ t.b t.o _ t.l _ hl (by first | exact (ht.below M4.old).at_ | exact (ht.below M4.all.old).at_ | exact (ht.below (M4.keep (bel1 _)).old).at_)).mono ?_; rintro e w5 ⟨rfl,hb5⟩; first | (have M5:=M4.keep hb5; try (have zc:=M5.box.one.1; have zf:=M5.box.one.2)) | (have M5:=(MeetE.new M4 0).keep hb5; have zc:=M5.box.one.1; have zf:=M5.box.one.2))
   | (go_at_call 151; refine (lane_at t.nm t.a t.cap t.l _).mono ?_; rintro e w4 ⟨rfl,hb4⟩; first | (have M4:=M3.keep hb4) | (have M4:MeetE w w4 t u w2.heap.size 0:=(MeetE.new M3 0).keep hb4; have zc:=M4.box.one.1; have zf:=M4.box.one.2)))
 all_goals
  first
   | exact hrest _ _ _ (MeetE.new M7 _) (by split <;> omega)
   | exact hrest _ _ _ (M7.put _) (by split <;> omega)
end Go.Proofs.YtgjleeamhkolhaaGreatDoor
