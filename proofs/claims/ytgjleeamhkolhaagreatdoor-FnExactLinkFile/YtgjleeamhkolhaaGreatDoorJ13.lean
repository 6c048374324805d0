/- Joined texts: LkLawB, LkStPut, LkMarkW, LkLawW, LkTwoX, LkTwoQ, LkRg, LkCopyB0, LkHrW. -/
import Derived.Laws.CopyOwn
import Derived.Maps.AppendAt
import Derived.Test.YtgjleeamhkolhaaGreatDoorJ06
import Derived.Test.YtgjleeamhkolhaaGreatDoorLkMarkP
import Derived.Test.YtgjleeamhkolhaaGreatDoorJ01
import Derived.Test.YtgjleeamhkolhaaGreatDoorLkHeldS
import Derived.Test.YtgjleeamhkolhaaGreatDoorJ02
import Derived.Test.YtgjleeamhkolhaaGreatDoorJ08
namespace Go.Proofs.YtgjleeamhkolhaaGreatDoor
open Go.RowKit
abbrev Iv (lo hi:Nat) (W W':World):Prop:=Spared (List.range' lo (hi - lo)) W W'
theorem Iv.out {lo hi k:Nat} (h:k < lo∨hi≤k):k ∉ List.range' lo (hi - lo):=nin_range h
theorem Iv.toBelow {lo hi B:Nat} {a w w':World} (h:Iv lo hi w w') (h0:Below B a w) (hB:B≤w.heap.size) (hl:B≤lo):Below B a w':=Spared.toBelow h h0 hB (range_ge hl)
theorem Cbx.iv {lo hi B:Nat} {W W':World} {vs:Array Value} (h:Cbx W B vs) (hs:Iv lo hi W W') (hn:B < lo∨hi≤B):Cbx W' B vs:=h.spared hs (Iv.out hn)
theorem Iv.of {S:List Nat} {lo hi:Nat} {W W':World} (h:Spared S W W') (hS:∀ k∈S,lo≤k∧k < hi):Iv lo hi W W':=h.mono (fun k hk=>in_range (hS k hk).1 (hS k hk).2)
theorem hdSz_key {t u:Hd} (h:t.key=u.key):hdSz t=hdSz u:=by
 simp only [Hd.key,Pt.key,Prod.mk.injEq] at h
 unfold hdSz ptSz
 rw [h.2.2.1.2.2.2.2,h.2.2.2.2.2.2.2.2]
theorem totH_keys:∀ {us vs:List Hd},us.map Hd.key=vs.map Hd.key→totH us=totH vs
 | [],[],_=>rfl
 | [],_ :: _,h=>by simp at h
 | _ :: _,[],h=>by simp at h
 | u :: us,v :: vs,h=>by
  simp only [List.map_cons,List.cons.injEq] at h
  simp only [totH]
  rw [hdSz_key h.1,totH_keys h.2]
theorem len_keys {us vs:List Hd} (h:us.map Hd.key=vs.map Hd.key):us.length=vs.length:=by simpa using congrArg List.length h
theorem small_keys {us vs:List Hd} (h:us.map Hd.key=vs.map Hd.key) (hs:∀ t∈vs,t.p.l.length≤1048576∧t.x.l.length≤1048576):∀ t∈us,t.p.l.length≤1048576∧t.x.l.length≤1048576:=fun t ht=>by
 obtain ⟨i,hi⟩:=List.mem_iff_getElem?.1 ht
 have e:(us.map Hd.key)[i]? = some t.key:=by rw [List.getElem?_map,hi]; rfl
 rw [h,List.getElem?_map] at e
 obtain ⟨v,hv,he⟩:=Option.map_eq_some_iff.1 e
 have:=hs v (List.mem_of_getElem? hv)
 simp only [Hd.key,Pt.key,Prod.mk.injEq] at he
 rw [← he.2.2.1.2.2.2.2,← he.2.2.2.2.2.2.2.2]
 exact this
structure BkPut (W:World) (g hi:Nat) (ts:List Hd):Prop where
 it:∃ us,HdsPut W g ts us∧MkPut W g hi us
section
variable {W W':World} {g hi:Nat} {ts:List Hd}
theorem BkPut.below (h:BkPut W g hi ts) (hb:Below W.heap.size W W'):BkPut W' g hi ts:=by
 obtain ⟨us,h1,h2⟩:=h.it
 exact ⟨us,h1.below hb,h2.below hb⟩
theorem BkPut.lt (h:BkPut W g hi ts):g < hi∧hi≤W.heap.size:=by
 obtain ⟨us,_,h2⟩:=h.it
 exact ⟨h2.lt,h2.le⟩
theorem BkPut.eq {g' hi':Nat} (la:Int) (h:BkPut W g hi ts) (h':BkPut W g' hi' ts) (hl:ts.length≤1048576) (hs:∀ t∈ts,t.p.l.length≤1048576∧t.x.l.length≤1048576) :
  Calls Tryz.prog 11 #[.agg #[.int .i64 la,.slice (some ⟨g,0,none⟩) ts.length ts.length],.agg #[.int .i64 la,.slice (some ⟨g',0,none⟩) ts.length ts.length]] W fun e w'=>e=.returned (.bool true)∧Below W.heap.size W w':=by
 obtain ⟨us,h1,_⟩:=h.it
 obtain ⟨vs,h3,_⟩:=h'.it
 have:=eqBook_same la (some ⟨g,0,none⟩) (some ⟨g',0,none⟩) g 0 ts.length g' 0 ts.length us vs W (by rw [h1.len]; exact hl) (h1.copied.keys.trans h3.copied.keys.symm) (h1.copied.small hs) h1.rows h3.rows
 rw [h1.len] at this
 exact this
theorem BkPut.mark (la k0:Int) (h:BkPut W g hi ts) (hl:ts.length≤1048576) (hs:∀ t∈ts,t.p.l.length≤1048576∧t.x.l.length≤1048576) (hk:0≤k0∧k0+(totH ts:Int)≤900000000) :
  Calls Tryz.prog 14 #[.agg #[.int .i64 la,.slice (some ⟨g,0,none⟩) ts.length ts.length],.int .i64 k0] W fun e w'=>e=.returned (.int .i64 (k0+(totH ts:Int)))∧Iv g hi W w':=by
 obtain ⟨us,h1,h2⟩:=h.it
 have e:=totH_keys h1.copied.keys
 have:=markBook_put la k0 g hi ts.length us W (by rw [h1.len]; exact hl) (h1.copied.small hs) (by rw [e]; exact hk) h2
 rw [h1.len,e] at this
 exact this
end
theorem toBook_put (t:Bk) (w:World) (hl:t.ts.length≤1048576) (hsm:∀ u∈t.ts,u.p.l.length≤1048576∧u.x.l.length≤1048576) (hs:BkAt w t) :
  Calls Tryz.prog 8 #[t.val] w fun e w'=>∃ g,e=.returned (.agg #[.int .i64 t.la,.slice (some ⟨g,0,none⟩) t.ts.length t.ts.length])∧w.heap.size≤g∧BkPut w' g w'.heap.size t.ts∧Below w.heap.size w w':=
 (toBook_any t w hl hsm hs).mono fun _ _ ⟨g,us,h1,h2,h3,h4⟩=>⟨g,h1,h2,⟨us,h3,MkPut.of h3⟩,h4⟩
abbrev HKey:=ByteArray × Int × (Int × Int × Int × Int × List Stp) × Int × (Int × Int × Int × Int × List Stp)
def totK:List HKey→Nat
 | []=>0
 | k :: ks=>3+(4+k.2.2.1.2.2.2.2.length * 7)+(4+k.2.2.2.2.2.2.2.2.length * 7)+totK ks
theorem totK_of:∀ us:List Hd,totK (us.map Hd.key)=totH us
 | []=>rfl
 | u :: us=>by simp only [List.map_cons,totK,totH,totK_of us]; rfl
def smallK (ks:List HKey):Prop:=∀ k∈ks,k.2.2.1.2.2.2.2.length≤1048576∧k.2.2.2.2.2.2.2.2.length≤1048576
theorem smallK_of {us:List Hd} (h:smallK (us.map Hd.key)):∀ u∈us,u.p.l.length≤1048576∧u.x.l.length≤1048576:=fun u hu=>h u.key (List.mem_map_of_mem hu)
structure BkAns (W:World) (lo hi:Nat) (v:Value) (ks:List HKey):Prop where
 it:∃ us,BkOwn W lo v us∧us.map Hd.key=ks∧∀ k∈bkBlks v us,k < hi
section
variable {W W':World} {lo hi:Nat} {v:Value} {ks:List HKey}
theorem BkAns.of {us:List Hd} (h:BkOwn W lo v us):BkAns W lo W.heap.size v (us.map Hd.key):=⟨us,h,rfl,fun k hk=>(h.lt k hk).2⟩
theorem BkAns.below (h:BkAns W lo hi v ks) (hb:Below W.heap.size W W'):BkAns W' lo hi v ks:=by
 obtain ⟨us,h1,h2,h3⟩:=h.it
 exact ⟨us,h1.below hb,h2,h3⟩
theorem BkAns.iv {lo' hi':Nat} (h:BkAns W lo hi v ks) (hs:Iv lo' hi' W W') (hd:hi≤lo'∨hi'≤lo):BkAns W' lo hi v ks:=by
 obtain ⟨us,h1,h2,h3⟩:=h.it
 exact ⟨us,h1.spared hs (fun k hk=>Iv.out (by have:=h3 k hk; have:=(h1.lt k hk).1; omega)),h2,h3⟩
theorem BkAns.slice (h:BkAns W lo hi v ks):∃ a c,v=.slice a ks.length c:=by
 obtain ⟨us,h1,rfl,_⟩:=h.it
 obtain ⟨a,c,e⟩:=own_slice h1.row
 exact ⟨a,c,by rw [List.length_map]; exact e⟩
theorem BkAns.eq {lo' hi':Nat} {v':Value} (la:Int) (h:BkAns W lo hi v ks) (h':BkAns W lo' hi' v' ks) (hl:ks.length≤1048576) (hs:smallK ks) :
  Calls Tryz.prog 11 #[.agg #[.int .i64 la,v],.agg #[.int .i64 la,v']] W fun e w'=>e=.returned (.bool true)∧Below W.heap.size W w':=by
 obtain ⟨us,h1,h2,_⟩:=h.it
 obtain ⟨vs,h3,h4,_⟩:=h'.it
 obtain ⟨a,g,cap,rfl,hA⟩:=h1.at_
 obtain ⟨a',g',cap',rfl,hB⟩:=h3.at_
 have hlen:us.length=vs.length:=len_keys (h2.trans h4.symm)
 have hul:us.length=ks.length:=by rw [← h2,List.length_map]
 have:=eqBook_same la a a' g 0 cap g' 0 cap' (us.map Hd.at0) (vs.map Hd.at0) W (by rw [List.length_map,hul]; exact hl) (by rw [at0_keys,at0_keys,h2,h4]) (fun t ht=>by
  obtain ⟨u,hu,rfl⟩:=List.mem_map.1 ht
  exact smallK_of (by rw [h2]; exact hs) u hu) hA hB
 rw [List.length_map] at this
 rw [← hlen]
 exact this
structure BkMk (W:World) (lo hi:Nat) (k0:Int) (v:Value) (ks:List HKey):Prop where
 it:∃ us,BkOwn W lo v (markHds k0 us)∧us.map Hd.key=ks∧∀ k∈bkBlks v us,k < hi
theorem bkBlks_mark (v:Value) (k0:Int) (us:List Hd):bkBlks v (markHds k0 us)=bkBlks v us:=by unfold bkBlks; rw [markHds_blks]
theorem BkMk.below {k0:Int} (h:BkMk W lo hi k0 v ks) (hb:Below W.heap.size W W'):BkMk W' lo hi k0 v ks:=by
 obtain ⟨us,h1,h2,h3⟩:=h.it
 exact ⟨us,h1.below hb,h2,h3⟩
theorem BkMk.iv {lo' hi':Nat} {k0:Int} (h:BkMk W lo hi k0 v ks) (hs:Iv lo' hi' W W') (hd:hi≤lo'∨hi'≤lo):BkMk W' lo hi k0 v ks:=by
 obtain ⟨us,h1,h2,h3⟩:=h.it
 exact ⟨us,h1.spared hs (fun k hk=>Iv.out (by have:=(h1.lt k hk).1; rw [bkBlks_mark] at hk; have:=h3 k hk; omega)),h2,h3⟩
theorem BkAns.mark (la k0:Int) (h:BkAns W lo hi v ks) (hl:ks.length≤1048576) (hs:smallK ks) (hk:0≤k0∧k0+(totK ks:Int)≤900000000) :
  Calls Tryz.prog 14 #[.agg #[.int .i64 la,v],.int .i64 k0] W fun e w'=>e=.returned (.int .i64 (k0+(totK ks:Int)))∧BkMk w' lo hi k0 v ks∧Iv lo hi W w':=by
 obtain ⟨us,h1,rfl,h3⟩:=h.it
 rw [totK_of] at hk ⊢
 rw [List.length_map] at hl
 refine (markBook_own la k0 v lo us W hl (smallK_of hs) hk h1).mono ?_
 rintro e w' ⟨h4,h5,h6⟩
 exact ⟨h4,⟨us,h5,rfl,h3⟩,Iv.of h6 (fun k hk=>⟨(h1.lt k hk).1,h3 k hk⟩)⟩
theorem BkMk.held {k0:Int} (la:Int) (h:BkMk W lo hi k0 v ks) (hl:ks.length≤1048576) (hs:smallK ks) (hk:0≤k0∧k0+(totK ks:Int)≤900000000) :
  Calls Tryz.prog 17 #[.agg #[.int .i64 la,v],.int .i64 k0] W fun e w'=>e=.returned (.int .i64 (k0+(totK ks:Int)))∧Below W.heap.size W w':=by
 obtain ⟨us,h1,rfl,h3⟩:=h.it
 rw [totK_of] at hk ⊢
 rw [List.length_map] at hl
 exact heldBook_own la k0 v lo us W hl (smallK_of hs) hk h1
end
theorem tot_left:∀ (ts:List Hd) (left:Int),-1≤left→left≤1048576→0≤ts.foldl leftH left→(totH ts:Int)≤11 * (ts.length:Int)+7 * (left - ts.foldl leftH left)
 | [],left,_,_,_=>by simp [totH]
 | t :: ts,left,h0,h1,h=>by
  rw [List.foldl_cons] at h
  have hr:=leftH_left left t h1
  have ht:0≤leftH left t:=by
   rcases Int.lt_or_le (leftH left t) 0 with hn | hn
   ·rw [foldH_neg ts _ (by omega)] at h; omega
   ·exact hn
  have ih:=tot_left ts (leftH left t) hr.1 hr.2 h
  have hsz:(hdSz t:Int)≤11+7 * (left - leftH left t):=by
   unfold leftH leftN leftB at ht ⊢
   unfold hdSz ptSz
   repeat' split at ht
   all_goals (repeat' split)
   all_goals omega
  simp only [totH,List.length_cons,List.foldl_cons]
  push_cast
  omega
theorem tot_book {ts:List Hd} {left:Int} (h0 : -1≤left) (h1:left≤1048576) (h:¬ leftHs left ts < 0):ts.length≤1048576∧(∀ t∈ts,t.p.l.length≤1048576∧t.x.l.length≤1048576)∧(totH ts:Int)≤20000000 ∧ -1≤leftHs left ts∧leftHs left ts≤1048576:=by
 have hx:=leftB_left left ts.length h0 h1
 have hr:=foldH_range ts (leftB left ts.length) hx.1 hx.2
 unfold leftHs at h ⊢
 have hb:¬ leftB left ts.length < 0:=by
  intro hn
  rw [foldH_neg ts _ (by omega)] at h
  omega
 have hl:(ts.length:Int)≤1048576:=by
  unfold leftB at hb
  split at hb
  ·omega
  ·omega
 have:=tot_left ts (leftB left ts.length) hx.1 hx.2 (by omega)
 exact ⟨by omega,foldH_small ts _ hx.1 hx.2 (by omega),by omega,hr.1,hr.2⟩
structure StPut (W:World) (g hi:Nat) (l:List Stp):Prop where
 lt:g < hi
 le:hi≤W.heap.size
 at_:StepsAt W (some ⟨g,0,none⟩) g 0 l
 put:PtPut W g l.length
section
variable {W W':World} {g hi:Nat} {l:List Stp}
theorem StPut.below (h:StPut W g hi l) (hb:Below W.heap.size W W'):StPut W' g hi l:=⟨h.lt,Nat.le_trans h.le hb.size,h.at_.below hb h.at_.lt,h.put.below hb⟩
theorem StPut.iv {lo' hi':Nat} (h:StPut W g hi l) (hs:Iv lo' hi' W W') (hd:hi≤lo'∨hi'≤g):StPut W' g hi l:=by
 have hg:=hs.block g (Nat.lt_of_lt_of_le h.lt h.le) (Iv.out (by have:=h.lt; omega))
 exact ⟨h.lt,Nat.le_trans h.le hs.size,⟨h.at_.here,fun hn=>Nat.lt_of_lt_of_le (h.at_.lt hn) hs.size,fun i s hi' j v hv=>by rw [World.cell?_of_block (w:=W) (a:=⟨g,0+i * 7+j,none⟩) hg]; exact h.at_.cell i s hi' j v hv⟩,h.put.spared hs (Iv.out (by have:=h.lt; omega))⟩
end
theorem StPut.range {g hi:Nat} {W W':World} (h:Spared [g] W W') (hlt:g < hi):Iv g hi W W':=Iv.of h (fun k hk=>by simp at hk; omega)
theorem toPath_put (p:Pt) (w:World) (hl:p.l.length≤1048576) (h:PtAt w p) :
  Calls Tryz.prog 9 #[p.val] w fun e w'=>∃ g,e=.returned (p.put g).val∧w.heap.size≤g∧StPut w' g w'.heap.size p.l∧Below w.heap.size w w':=
 (toPath_more _ _ _ _ _ p.b0 p.o _ _ w hl h).mono fun _ _ ⟨g,h1,h2,h3,h4,h5,h6⟩=>⟨g,h1,h2,⟨h3,Nat.le_refl _,h4,⟨h3,h6⟩⟩,h5⟩
theorem eqPath_put (p:Pt) {W:World} {g hi g' hi':Nat} (h:StPut W g hi p.l) (h':StPut W g' hi' p.l) (hl:p.l.length≤1048576) :
  Calls Tryz.prog 13 #[(p.put g).val,(p.put g').val] W fun e w'=>e=.returned (.bool true)∧Below W.heap.size W w':=
 eqPath_same _ _ _ _ _ _ g 0 _ g' 0 _ _ _ hl h.at_ h'.at_
theorem markPath_far (q s fr b k0:Int) (v:Value) (base:Nat) (l:List Stp) (w:World) (hn:l.length≤1048576) (hk:0≤k0∧k0≤900000000) (h:w.ownsRow base 98 7 v l.length (stepCells l)) :
  Calls Tryz.prog 15 #[.agg #[.int .i64 q,.int .i64 s,v,.int .i64 fr,.int .i64 b],.int .i64 k0] w
   fun e w'=>e=.returned (.int .i64 (k0+((l.length * 7:Nat):Int)))∧w'.ownsRow base 98 7 v l.length (stepCells (markL k0 l.length))∧Spared v.ownBlock.toList w w':=
 (markPath_farG q s fr b k0 v base l w hn hk h).mono fun _ _ ⟨h1,h2,h3⟩=>⟨h1,h2,Spared.grown h3 (by simp)⟩
theorem markWord_own (k n q s fr b k0:Int) (nm:ByteArray) (v:Value) (base:Nat) (l:List Stp) (w:World) (hn:l.length≤1048576) (hk:0≤k0∧k0≤900000000) (h:w.ownsRow base 98 7 v l.length (stepCells l)) :
  Calls Tryz.prog 16 #[.agg #[.int .i64 k,.string nm,.int .i64 n,.int .i64 q,.int .i64 s,v,.int .i64 fr,.int .i64 b],.int .i64 k0] w
   fun e w'=>e=.returned (.int .i64 (k0+((l.length * 7:Nat):Int)))∧w'.ownsRow base 98 7 v l.length (stepCells (markL k0 l.length))∧Spared v.ownBlock.toList w w':=by
 obtain ⟨a,c,rfl⟩:=own_slice h
 have K0:=bel1 (w:=w) (.cells #[.int .i64 k,.string nm,.int .i64 n,.int .i64 q,.int .i64 s,.slice a l.length c,.int .i64 fr,.int .i64 b] 40)
 go_enter Tryz.func16,Tryz.ntmps16
 go_wp2_with fail
 refine (markPath_far q s fr b k0 _ base l _ hn hk (owns_below h K0)).mono ?_
 rintro e w1 ⟨rfl,h1,s1⟩
 go_wp2
 go_ret
 exact ⟨rfl,h1,(Spared.below K0).trans s1⟩
theorem heldWord_own (k n q s fr b k0:Int) (nm:ByteArray) (v:Value) (base m:Nat) (w:World) (hn:m≤1048576) (hk:0≤k0∧k0≤900000000) (h:w.ownsRow base 98 7 v m (stepCells (markL k0 m))) :
  Calls Tryz.prog 18 #[.agg #[.int .i64 k,.string nm,.int .i64 n,.int .i64 q,.int .i64 s,v,.int .i64 fr,.int .i64 b],.int .i64 k0] w
   fun e w'=>e=.returned (.int .i64 (k0+((m * 7:Nat):Int)))∧Below w.heap.size w w':=by
 obtain ⟨a,c,rfl⟩:=own_slice h
 have K0:=bel1 (w:=w) (.cells #[.int .i64 k,.string nm,.int .i64 n,.int .i64 q,.int .i64 s,.slice a m c,.int .i64 fr,.int .i64 b] 40)
 have hp:¬ k0+((m * 7:Nat):Int) < 0:=by omega
 go_enter Tryz.func18,Tryz.ntmps18
 go_wp2_with fail
 refine (heldPath_far q s fr b k0 _ base m _ hn hk (owns_below h K0)).mono ?_
 rintro e w1 ⟨rfl,hb1⟩
 generalize hX:k0+((m * 7:Nat):Int)=X at *
 go_wp2
 go_ret
 exact ⟨by rw [hX]; rfl,K0.trans (hb1.mono K0.size)⟩
theorem markPath_put (q s fr b k0:Int) (g cap n:Nat) (w:World) (hn:n≤1048576) (hk:0≤k0∧k0≤900000000) (h:PtPut w g n) :
  Calls Tryz.prog 15 #[.agg #[.int .i64 q,.int .i64 s,.slice (some ⟨g,0,none⟩) n cap,.int .i64 fr,.int .i64 b],.int .i64 k0] w
   fun e w'=>e=.returned (.int .i64 (k0+((n * 7:Nat):Int)))∧Spared [g] w w':=by
 have K0:=bel1 (w:=w) (.cells #[.int .i64 q,.int .i64 s,.slice (some ⟨g,0,none⟩) n cap,.int .i64 fr,.int .i64 b] 38)
 go_enter Tryz.func15,Tryz.ntmps15
 go_wp2_with fail
 refine (markSteps_put k0 g cap n _ hn ⟨hk.1,by omega⟩ (h.below K0).there).mono ?_
 rintro e w1 ⟨rfl,g1,_,_⟩
 go_wp2
 go_ret
 exact ⟨rfl,(Spared.below K0).trans (Spared.grown g1 (fun k hk=>by cases hk; simp))⟩
theorem markPath_iv (p:Pt) (k0:Int) {W:World} {g hi:Nat} (h:StPut W g hi p.l) (hl:p.l.length≤1048576) (hk:0≤k0∧k0≤900000000) :
  Calls Tryz.prog 15 #[(p.put g).val,.int .i64 k0] W fun e w'=>e=.returned (.int .i64 (k0+((p.l.length * 7:Nat):Int)))∧Iv g hi W w':=
 (markPath_put _ _ _ _ k0 g _ _ W hl hk h.put).mono fun _ _ ⟨h1,h2⟩=>⟨h1,StPut.range h2 h.lt⟩
structure WdAns (W:World) (lo hi:Nat) (a:Option Addr) (c:Nat) (l:List Stp):Prop where
 row:W.ownsRow lo 98 7 (.slice a l.length c) l.length (stepCells l)
 lt:∀ k,(Value.slice a l.length c).ownBlock=some k→k < hi
section
variable {W W':World} {lo hi:Nat} {a:Option Addr} {c:Nat} {l:List Stp}
theorem WdAns.of (h:W.ownsRow lo 98 7 (.slice a l.length c) l.length (stepCells l)):WdAns W lo W.heap.size a c l:=⟨h,owns_lt h⟩
theorem WdAns.below (h:WdAns W lo hi a c l) (hb:Below W.heap.size W W'):WdAns W' lo hi a c l:=⟨owns_below h.row hb,h.lt⟩
theorem WdAns.iv {lo' hi':Nat} (h:WdAns W lo hi a c l) (hs:Iv lo' hi' W W') (hd:hi≤lo'∨hi'≤lo):WdAns W' lo hi a c l:=
 ⟨hs.owns h.row (fun k hk=>Iv.out (by have:=h.lt k hk; have:=owns_base h.row k hk; omega)),h.lt⟩
theorem WdAns.eq {lo' hi':Nat} {a':Option Addr} {c':Nat} (k n q s fr b:Int) (nm:ByteArray) (h:WdAns W lo hi a c l) (h':WdAns W lo' hi' a' c' l) (hl:l.length≤1048576) :
  Calls Tryz.prog 12 #[.agg #[.int .i64 k,.string nm,.int .i64 n,.int .i64 q,.int .i64 s,.slice a l.length c,.int .i64 fr,.int .i64 b],.agg #[.int .i64 k,.string nm,.int .i64 n,.int .i64 q,.int .i64 s,.slice a' l.length c',.int .i64 fr,.int .i64 b]] W fun e w'=>e=.returned (.bool true)∧Below W.heap.size W w':=
 eqWord_same ⟨k,nm,n,⟨q,s,fr,b,a,_,0,c,l⟩⟩ ⟨k,nm,n,⟨q,s,fr,b,a',_,0,c',l⟩⟩ W rfl rfl rfl rfl rfl rfl rfl rfl hl (row_at h.row) (row_at h'.row)
structure WdMk (W:World) (lo:Nat) (hi:Nat) (k0:Int) (a:Option Addr) (c m:Nat):Prop where
 row:W.ownsRow lo 98 7 (.slice a m c) m (stepCells (markL k0 m))
 lt:∀ k,(Value.slice a m c).ownBlock=some k→k < hi
theorem WdMk.below {k0:Int} {m:Nat} (h:WdMk W lo hi k0 a c m) (hb:Below W.heap.size W W'):WdMk W' lo hi k0 a c m:=⟨owns_below h.row hb,h.lt⟩
theorem WdAns.mark (k n q s fr b k0:Int) (nm:ByteArray) (h:WdAns W lo hi a c l) (hl:l.length≤1048576) (hk:0≤k0∧k0≤900000000) :
  Calls Tryz.prog 16 #[.agg #[.int .i64 k,.string nm,.int .i64 n,.int .i64 q,.int .i64 s,.slice a l.length c,.int .i64 fr,.int .i64 b],.int .i64 k0] W fun e w'=>e=.returned (.int .i64 (k0+((l.length * 7:Nat):Int)))∧WdMk w' lo hi k0 a c l.length∧Iv lo hi W w':=
 (markWord_own k n q s fr b k0 nm _ lo l W hl hk h.row).mono fun _ _ ⟨h1,h2,h3⟩=>⟨h1,⟨h2,h.lt⟩,Iv.of h3 (fun k hk=>by simp at hk; exact ⟨owns_base h.row k hk,h.lt k hk⟩)⟩
theorem WdMk.held {m:Nat} (k n q s fr b k0:Int) (nm:ByteArray) (h:WdMk W lo hi k0 a c m) (hl:m≤1048576) (hk:0≤k0∧k0≤900000000) :
  Calls Tryz.prog 18 #[.agg #[.int .i64 k,.string nm,.int .i64 n,.int .i64 q,.int .i64 s,.slice a m c,.int .i64 fr,.int .i64 b],.int .i64 k0] W fun e w'=>e=.returned (.int .i64 (k0+((m * 7:Nat):Int)))∧Below W.heap.size W w':=
 heldWord_own k n q s fr b k0 nm _ lo m W hl hk h.row
end
structure TwoX (w w0 V:World) (A B:Array Value):Prop where
 old:Below w.heap.size w V
 now:Below w0.heap.size w0 V
 one:Cbx V w.heap.size A
 two:Cbx V (w.heap.size+1) B
theorem TwoX.keep {w w0 V V':World} {A B:Array Value} (h:TwoX w w0 V A B) (hb:Below V.heap.size V V'):TwoX w w0 V' A B:=⟨h.old.trans (hb.mono h.old.size),h.now.trans (hb.mono h.now.size),h.one.keep hb,h.two.keep hb⟩
structure TwoQ (w w0 V:World) (A B:Array Value) (K:Nat) (C:Array Value) (L:Nat) (D:Array Value):Prop where
 both:TwoX w w0 V A B
 boxK:Cbx V K C
 boxL:Cbx V L D
 k:w.heap.size+1 < K
 k0:w0.heap.size≤K
 l:w.heap.size+1 < L
 l0:w0.heap.size≤L
 ne:K≠L
theorem iv_put (V:World) (K j:Nat) (v:Value):Iv K (K+1) V (V.setCell ⟨K,j,none⟩ v):=Iv.of (S:=[K]) (Spared.grown (grown_set V ⟨K,j,none⟩ v) (by simp)) (fun k hk=>by simp at hk; omega)
theorem iv_row (V:World) (K:Nat) (cs:Array Value):Iv K (K+1) V (V.setRow K cs):=Iv.of (S:=[K]) ⟨rfl,rfl,rfl,by simp,fun k _ hn=>setRow_other V K k cs (by simpa using hn)⟩ (fun k hk=>by simp at hk; omega)
theorem Cbx.rowIn {V:World} {K:Nat} {old:Array Value} (h:Cbx V K old) (cs:Array Value):Cbx (V.setRow K cs) K cs:=by
 obtain ⟨T,h⟩:=h.it
 exact ⟨T,setRow_heap V K old cs T _ h⟩
theorem Cbx.rowOff {V:World} {B K:Nat} {vs:Array Value} (h:Cbx V B vs) (hne:B≠K) (cs:Array Value):Cbx (V.setRow K cs) B vs:=by
 obtain ⟨T,h⟩:=h.it
 exact ⟨T,(setRow_other V K B cs hne).trans h⟩
theorem TwoQ.rowK {w w0 V:World} {A B C D:Array Value} {K L:Nat} (h:TwoQ w w0 V A B K C L D) (cs:Array Value):TwoQ w w0 (V.setRow K cs) A B K cs L D:=by
 have hk:=h.k
 have hs:=h.both.old.size
 exact ⟨⟨below_setRow h.both.old (by omega) cs,below_setRow h.both.now h.k0 cs,h.both.one.rowOff (by omega) cs,h.both.two.rowOff (by omega) cs⟩,h.boxK.rowIn cs,h.boxL.rowOff (Ne.symm h.ne) cs,h.k,h.k0,h.l,h.l0,h.ne⟩
theorem TwoQ.rowL {w w0 V:World} {A B C D:Array Value} {K L:Nat} (h:TwoQ w w0 V A B K C L D) (cs:Array Value):TwoQ w w0 (V.setRow L cs) A B K C L cs:=by
 have hk:=h.l
 have hs:=h.both.old.size
 exact ⟨⟨below_setRow h.both.old (by omega) cs,below_setRow h.both.now h.l0 cs,h.both.one.rowOff (by omega) cs,h.both.two.rowOff (by omega) cs⟩,h.boxK.rowOff h.ne cs,h.boxL.rowIn cs,h.k,h.k0,h.l,h.l0,h.ne⟩
structure Rg (t:Bk) (nm:ByteArray) (p:Pt) (now:Int) (rla rk rm rq rs rf rb rc:Int) (rn:ByteArray) (ks:List HKey) (rl:List Stp) (w w0:World) (L:Nat→Prop) (y10 y11 y37 y38 y39 y40 y41 y42 y43 y44 y45 y46 y47:Value) (KA KB lo mid hi:Nat) (CA CB:Array Value) (V:World):Prop where
 m:TwoX w w0 V #[.int .i64 t.la,.slice t.a t.ts.length t.cap] #[.int .i64 p.q,.int .i64 p.s,.slice p.a p.l.length p.cap,.int .i64 p.fr,.int .i64 p.b]
 o0:L 0→y38=.agg #[.int .i64 t.la,.slice t.a t.ts.length t.cap]
 o1:L 1→¬ L 6→∃ g h,y39=.agg #[.int .i64 t.la,.slice (some ⟨g,0,none⟩) t.ts.length t.ts.length]∧BkPut V g h t.ts
 o2:L 2→y40=.string nm
 o3:L 3→y41=.agg #[.int .i64 p.q,.int .i64 p.s,.slice p.a p.l.length p.cap,.int .i64 p.fr,.int .i64 p.b]
 o4:L 4→¬ L 6→∃ g h,y42=.agg #[.int .i64 p.q,.int .i64 p.s,.slice (some ⟨g,0,none⟩) p.l.length p.l.length,.int .i64 p.fr,.int .i64 p.b]∧StPut V g h p.l
 o5:L 5→y43=.int .i64 now
 o6:L 6→(∃ a0 c0 a1 c1,y44=.tuple #[.agg #[.int .i64 rla,.slice a0 ks.length c0],.agg #[.int .i64 rk,.string rn,.int .i64 rm,.int .i64 rq,.int .i64 rs,.slice a1 rl.length c1,.int .i64 rf,.int .i64 rb],.int .i64 rc]∧BkAns V lo mid (.slice a0 ks.length c0) ks∧WdAns V mid hi a1 c1 rl)∧w.heap.size+1 < lo∧lo≤mid∧mid≤hi∧hi≤V.heap.size
 o7:L 7→y37=y44
 o8:L 8→∃ x y z,y44=.tuple #[x,y,z]∧y45=x
 o9:L 9→∃ x y z,y44=.tuple #[x,y,z]∧y46=y
 o10:L 10→∃ x y z,y44=.tuple #[x,y,z]∧y47=z
 a:L 11→y10=.pointer (some ⟨KA,0,none⟩)∧Cbx V KA CA∧w.heap.size+1 < KA∧w0.heap.size≤KA
 za:¬ L 13→CA=#[.int .i64 0,.slice none 0 0]
 sa:L 13→∃ y z,y44=.tuple #[.agg CA,y,z]
 b:L 12→y11=.pointer (some ⟨KB,0,none⟩)∧Cbx V KB CB∧w.heap.size+1 < KB∧w0.heap.size≤KB
 zb:¬ L 14→CB=#[.int .i64 0,.string ⟨#[]⟩,.int .i64 0,.int .i64 0,.int .i64 0,.slice none 0 0,.int .i64 0,.int .i64 0]
 sb:L 14→∃ x z,y44=.tuple #[x,.agg CB,z]
 ne:L 11→L 12→KA≠KB
 pa:L 6→L 11→KA < lo∨hi≤KA
 pb:L 6→L 12→KB < lo∨hi≤KB
 d7:L 7→L 6
 d8:L 8→L 6
 d9:L 9→L 6
 d10:L 10→L 6
 e13:L 13→L 6
 e14:L 14→L 6
 f13:L 13→L 11
 f14:L 14→L 12
section
variable {t:Bk} {nm:ByteArray} {p:Pt} {now:Int} {rla rk rm rq rs rf rb rc:Int} {rn:ByteArray} {ks:List HKey} {rl:List Stp} {w w0:World} {L:Nat→Prop} {y10 y11 y37 y38 y39 y40 y41 y42 y43 y44 y45 y46 y47:Value} {KA KB lo mid hi:Nat} {CA CB:Array Value} {V V':World}
theorem Rg.grow (h:Rg t nm p now rla rk rm rq rs rf rb rc rn ks rl w w0 L y10 y11 y37 y38 y39 y40 y41 y42 y43 y44 y45 y46 y47 KA KB lo mid hi CA CB V) (hb:Below V.heap.size V V'):Rg t nm p now rla rk rm rq rs rf rb rc rn ks rl w w0 L y10 y11 y37 y38 y39 y40 y41 y42 y43 y44 y45 y46 y47 KA KB lo mid hi CA CB V':=
 ⟨h.m.keep hb,
  h.o0,
  fun h1 n6=>by obtain ⟨g,k,e,q⟩:=h.o1 h1 n6; exact ⟨g,k,e,q.below hb⟩,
  h.o2,
  h.o3,
  fun h4 n6=>by obtain ⟨g,k,e,q⟩:=h.o4 h4 n6; exact ⟨g,k,e,q.below hb⟩,
  h.o5,
  fun h6=>by obtain ⟨⟨a0,c0,a1,c1,e,q,r⟩,z1,z2,z3,z4⟩:=h.o6 h6; exact ⟨⟨a0,c0,a1,c1,e,q.below hb,r.below hb⟩,z1,z2,z3,Nat.le_trans z4 hb.size⟩,
  h.o7,
  h.o8,
  h.o9,
  h.o10,
  fun h11=>by obtain ⟨e,q,z⟩:=h.a h11; exact ⟨e,q.keep hb,z⟩,
  h.za,
  h.sa,
  fun h12=>by obtain ⟨e,q,z⟩:=h.b h12; exact ⟨e,q.keep hb,z⟩,
  h.zb,
  h.sb,
  h.ne,
  h.pa,
  h.pb,
  h.d7,
  h.d8,
  h.d9,
  h.d10,
  h.e13,
  h.e14,
  h.f13,
  h.f14⟩
theorem Rg.s0 (h:Rg t nm p now rla rk rm rq rs rf rb rc rn ks rl w w0 L y10 y11 y37 y38 y39 y40 y41 y42 y43 y44 y45 y46 y47 KA KB lo mid hi CA CB V)  : Rg t nm p now rla rk rm rq rs rf rb rc rn ks rl w w0 (fun j=>j=0∨L j) y10 y11 y37 (.agg #[.int .i64 t.la,.slice t.a t.ts.length t.cap]) y39 y40 y41 y42 y43 y44 y45 y46 y47 KA KB lo mid hi CA CB V:=
 ⟨h.m,
  fun _=>rfl,
  fun h1 n6=>h.o1 (ol h1) (fun z=>n6 (Or.inr z)),
  fun h2=>h.o2 (ol h2),
  fun h3=>h.o3 (ol h3),
  fun h4 n6=>h.o4 (ol h4) (fun z=>n6 (Or.inr z)),
  fun h5=>h.o5 (ol h5),
  fun h6=>h.o6 (ol h6),
  fun h7=>h.o7 (ol h7),
  fun h8=>h.o8 (ol h8),
  fun h9=>h.o9 (ol h9),
  fun h10=>h.o10 (ol h10),
  fun h11=>h.a (ol h11),
  fun n13=>h.za (fun z=>n13 (Or.inr z)),
  fun h13=>h.sa (ol h13),
  fun h12=>h.b (ol h12),
  fun n14=>h.zb (fun z=>n14 (Or.inr z)),
  fun h14=>h.sb (ol h14),
  fun h11 h12=>h.ne (ol h11) (ol h12),
  fun h6 h11=>h.pa (ol h6) (ol h11),
  fun h6 h12=>h.pb (ol h6) (ol h12),
  fun h7=>Or.inr (h.d7 (ol h7)),
  fun h8=>Or.inr (h.d8 (ol h8)),
  fun h9=>Or.inr (h.d9 (ol h9)),
  fun h10=>Or.inr (h.d10 (ol h10)),
  fun h13=>Or.inr (h.e13 (ol h13)),
  fun h14=>Or.inr (h.e14 (ol h14)),
  fun h13=>Or.inr (h.f13 (ol h13)),
  fun h14=>Or.inr (h.f14 (ol h14))⟩
theorem Rg.s1 (h:Rg t nm p now rla rk rm rq rs rf rb rc rn ks rl w w0 L y10 y11 y37 y38 y39 y40 y41 y42 y43 y44 y45 y46 y47 KA KB lo mid hi CA CB V) (g k:Nat) (hp:BkPut V g k t.ts):Rg t nm p now rla rk rm rq rs rf rb rc rn ks rl w w0 (fun j=>j=1∨L j) y10 y11 y37 y38 (.agg #[.int .i64 t.la,.slice (some ⟨g,0,none⟩) t.ts.length t.ts.length]) y40 y41 y42 y43 y44 y45 y46 y47 KA KB lo mid hi CA CB V:=
 ⟨h.m,
  fun h0=>h.o0 (ol h0),
  fun _ _=>⟨g,k,rfl,hp⟩,
  fun h2=>h.o2 (ol h2),
  fun h3=>h.o3 (ol h3),
  fun h4 n6=>h.o4 (ol h4) (fun z=>n6 (Or.inr z)),
  fun h5=>h.o5 (ol h5),
  fun h6=>h.o6 (ol h6),
  fun h7=>h.o7 (ol h7),
  fun h8=>h.o8 (ol h8),
  fun h9=>h.o9 (ol h9),
  fun h10=>h.o10 (ol h10),
  fun h11=>h.a (ol h11),
  fun n13=>h.za (fun z=>n13 (Or.inr z)),
  fun h13=>h.sa (ol h13),
  fun h12=>h.b (ol h12),
  fun n14=>h.zb (fun z=>n14 (Or.inr z)),
  fun h14=>h.sb (ol h14),
  fun h11 h12=>h.ne (ol h11) (ol h12),
  fun h6 h11=>h.pa (ol h6) (ol h11),
  fun h6 h12=>h.pb (ol h6) (ol h12),
  fun h7=>Or.inr (h.d7 (ol h7)),
  fun h8=>Or.inr (h.d8 (ol h8)),
  fun h9=>Or.inr (h.d9 (ol h9)),
  fun h10=>Or.inr (h.d10 (ol h10)),
  fun h13=>Or.inr (h.e13 (ol h13)),
  fun h14=>Or.inr (h.e14 (ol h14)),
  fun h13=>Or.inr (h.f13 (ol h13)),
  fun h14=>Or.inr (h.f14 (ol h14))⟩
theorem Rg.s2 (h:Rg t nm p now rla rk rm rq rs rf rb rc rn ks rl w w0 L y10 y11 y37 y38 y39 y40 y41 y42 y43 y44 y45 y46 y47 KA KB lo mid hi CA CB V)  : Rg t nm p now rla rk rm rq rs rf rb rc rn ks rl w w0 (fun j=>j=2∨L j) y10 y11 y37 y38 y39 (.string nm) y41 y42 y43 y44 y45 y46 y47 KA KB lo mid hi CA CB V:=
 ⟨h.m,
  fun h0=>h.o0 (ol h0),
  fun h1 n6=>h.o1 (ol h1) (fun z=>n6 (Or.inr z)),
  fun _=>rfl,
  fun h3=>h.o3 (ol h3),
  fun h4 n6=>h.o4 (ol h4) (fun z=>n6 (Or.inr z)),
  fun h5=>h.o5 (ol h5),
  fun h6=>h.o6 (ol h6),
  fun h7=>h.o7 (ol h7),
  fun h8=>h.o8 (ol h8),
  fun h9=>h.o9 (ol h9),
  fun h10=>h.o10 (ol h10),
  fun h11=>h.a (ol h11),
  fun n13=>h.za (fun z=>n13 (Or.inr z)),
  fun h13=>h.sa (ol h13),
  fun h12=>h.b (ol h12),
  fun n14=>h.zb (fun z=>n14 (Or.inr z)),
  fun h14=>h.sb (ol h14),
  fun h11 h12=>h.ne (ol h11) (ol h12),
  fun h6 h11=>h.pa (ol h6) (ol h11),
  fun h6 h12=>h.pb (ol h6) (ol h12),
  fun h7=>Or.inr (h.d7 (ol h7)),
  fun h8=>Or.inr (h.d8 (ol h8)),
  fun h9=>Or.inr (h.d9 (ol h9)),
  fun h10=>Or.inr (h.d10 (ol h10)),
  fun h13=>Or.inr (h.e13 (ol h13)),
  fun h14=>Or.inr (h.e14 (ol h14)),
  fun h13=>Or.inr (h.f13 (ol h13)),
  fun h14=>Or.inr (h.f14 (ol h14))⟩
theorem Rg.s3 (h:Rg t nm p now rla rk rm rq rs rf rb rc rn ks rl w w0 L y10 y11 y37 y38 y39 y40 y41 y42 y43 y44 y45 y46 y47 KA KB lo mid hi CA CB V)  : Rg t nm p now rla rk rm rq rs rf rb rc rn ks rl w w0 (fun j=>j=3∨L j) y10 y11 y37 y38 y39 y40 (.agg #[.int .i64 p.q,.int .i64 p.s,.slice p.a p.l.length p.cap,.int .i64 p.fr,.int .i64 p.b]) y42 y43 y44 y45 y46 y47 KA KB lo mid hi CA CB V:=
 ⟨h.m,
  fun h0=>h.o0 (ol h0),
  fun h1 n6=>h.o1 (ol h1) (fun z=>n6 (Or.inr z)),
  fun h2=>h.o2 (ol h2),
  fun _=>rfl,
  fun h4 n6=>h.o4 (ol h4) (fun z=>n6 (Or.inr z)),
  fun h5=>h.o5 (ol h5),
  fun h6=>h.o6 (ol h6),
  fun h7=>h.o7 (ol h7),
  fun h8=>h.o8 (ol h8),
  fun h9=>h.o9 (ol h9),
  fun h10=>h.o10 (ol h10),
  fun h11=>h.a (ol h11),
  fun n13=>h.za (fun z=>n13 (Or.inr z)),
  fun h13=>h.sa (ol h13),
  fun h12=>h.b (ol h12),
  fun n14=>h.zb (fun z=>n14 (Or.inr z)),
  fun h14=>h.sb (ol h14),
  fun h11 h12=>h.ne (ol h11) (ol h12),
  fun h6 h11=>h.pa (ol h6) (ol h11),
  fun h6 h12=>h.pb (ol h6) (ol h12),
  fun h7=>Or.inr (h.d7 (ol h7)),
  fun h8=>Or.inr (h.d8 (ol h8)),
  fun h9=>Or.inr (h.d9 (ol h9)),
  fun h10=>Or.inr (h.d10 (ol h10)),
  fun h13=>Or.inr (h.e13 (ol h13)),
  fun h14=>Or.inr (h.e14 (ol h14)),
  fun h13=>Or.inr (h.f13 (ol h13)),
  fun h14=>Or.inr (h.f14 (ol h14))⟩
theorem Rg.s4 (h:Rg t nm p now rla rk rm rq rs rf rb rc rn ks rl w w0 L y10 y11 y37 y38 y39 y40 y41 y42 y43 y44 y45 y46 y47 KA KB lo mid hi CA CB V) (g k:Nat) (hp:StPut V g k p.l):Rg t nm p now rla rk rm rq rs rf rb rc rn ks rl w w0 (fun j=>j=4∨L j) y10 y11 y37 y38 y39 y40 y41 (.agg #[.int .i64 p.q,.int .i64 p.s,.slice (some ⟨g,0,none⟩) p.l.length p.l.length,.int .i64 p.fr,.int .i64 p.b]) y43 y44 y45 y46 y47 KA KB lo mid hi CA CB V:=
 ⟨h.m,
  fun h0=>h.o0 (ol h0),
  fun h1 n6=>h.o1 (ol h1) (fun z=>n6 (Or.inr z)),
  fun h2=>h.o2 (ol h2),
  fun h3=>h.o3 (ol h3),
  fun _ _=>⟨g,k,rfl,hp⟩,
  fun h5=>h.o5 (ol h5),
  fun h6=>h.o6 (ol h6),
  fun h7=>h.o7 (ol h7),
  fun h8=>h.o8 (ol h8),
  fun h9=>h.o9 (ol h9),
  fun h10=>h.o10 (ol h10),
  fun h11=>h.a (ol h11),
  fun n13=>h.za (fun z=>n13 (Or.inr z)),
  fun h13=>h.sa (ol h13),
  fun h12=>h.b (ol h12),
  fun n14=>h.zb (fun z=>n14 (Or.inr z)),
  fun h14=>h.sb (ol h14),
  fun h11 h12=>h.ne (ol h11) (ol h12),
  fun h6 h11=>h.pa (ol h6) (ol h11),
  fun h6 h12=>h.pb (ol h6) (ol h12),
  fun h7=>Or.inr (h.d7 (ol h7)),
  fun h8=>Or.inr (h.d8 (ol h8)),
  fun h9=>Or.inr (h.d9 (ol h9)),
  fun h10=>Or.inr (h.d10 (ol h10)),
  fun h13=>Or.inr (h.e13 (ol h13)),
  fun h14=>Or.inr (h.e14 (ol h14)),
  fun h13=>Or.inr (h.f13 (ol h13)),
  fun h14=>Or.inr (h.f14 (ol h14))⟩
theorem Rg.s5 (h:Rg t nm p now rla rk rm rq rs rf rb rc rn ks rl w w0 L y10 y11 y37 y38 y39 y40 y41 y42 y43 y44 y45 y46 y47 KA KB lo mid hi CA CB V)  : Rg t nm p now rla rk rm rq rs rf rb rc rn ks rl w w0 (fun j=>j=5∨L j) y10 y11 y37 y38 y39 y40 y41 y42 (.int .i64 now) y44 y45 y46 y47 KA KB lo mid hi CA CB V:=
 ⟨h.m,
  fun h0=>h.o0 (ol h0),
  fun h1 n6=>h.o1 (ol h1) (fun z=>n6 (Or.inr z)),
  fun h2=>h.o2 (ol h2),
  fun h3=>h.o3 (ol h3),
  fun h4 n6=>h.o4 (ol h4) (fun z=>n6 (Or.inr z)),
  fun _=>rfl,
  fun h6=>h.o6 (ol h6),
  fun h7=>h.o7 (ol h7),
  fun h8=>h.o8 (ol h8),
  fun h9=>h.o9 (ol h9),
  fun h10=>h.o10 (ol h10),
  fun h11=>h.a (ol h11),
  fun n13=>h.za (fun z=>n13 (Or.inr z)),
  fun h13=>h.sa (ol h13),
  fun h12=>h.b (ol h12),
  fun n14=>h.zb (fun z=>n14 (Or.inr z)),
  fun h14=>h.sb (ol h14),
  fun h11 h12=>h.ne (ol h11) (ol h12),
  fun h6 h11=>h.pa (ol h6) (ol h11),
  fun h6 h12=>h.pb (ol h6) (ol h12),
  fun h7=>Or.inr (h.d7 (ol h7)),
  fun h8=>Or.inr (h.d8 (ol h8)),
  fun h9=>Or.inr (h.d9 (ol h9)),
  fun h10=>Or.inr (h.d10 (ol h10)),
  fun h13=>Or.inr (h.e13 (ol h13)),
  fun h14=>Or.inr (h.e14 (ol h14)),
  fun h13=>Or.inr (h.f13 (ol h13)),
  fun h14=>Or.inr (h.f14 (ol h14))⟩
theorem Rg.s6 (h:Rg t nm p now rla rk rm rq rs rf rb rc rn ks rl w w0 L y10 y11 y37 y38 y39 y40 y41 y42 y43 y44 y45 y46 y47 KA KB lo mid hi CA CB V) (n7:¬ L 7) (n8:¬ L 8) (n9:¬ L 9) (n10:¬ L 10) (n13:¬ L 13) (n14:¬ L 14) {a0 a1:Option Addr} {c0 c1 lo1 mid1 hi1:Nat} (q:BkAns V lo1 mid1 (.slice a0 ks.length c0) ks) (r:WdAns V mid1 hi1 a1 c1 rl) (z1:w.heap.size+1 < lo1) (z2:lo1≤mid1) (z3:mid1≤hi1) (z4:hi1≤V.heap.size) (kA:L 11→KA < lo1) (kB:L 12→KB < lo1):Rg t nm p now rla rk rm rq rs rf rb rc rn ks rl w w0 (fun j=>j=6∨L j) y10 y11 y37 y38 y39 y40 y41 y42 y43 (.tuple #[.agg #[.int .i64 rla,.slice a0 ks.length c0],.agg #[.int .i64 rk,.string rn,.int .i64 rm,.int .i64 rq,.int .i64 rs,.slice a1 rl.length c1,.int .i64 rf,.int .i64 rb],.int .i64 rc]) y45 y46 y47 KA KB lo1 mid1 hi1 CA CB V:=
 ⟨h.m,
  fun h0=>h.o0 (ol h0),
  fun _ n6=>absurd (Or.inl rfl) n6,
  fun h2=>h.o2 (ol h2),
  fun h3=>h.o3 (ol h3),
  fun _ n6=>absurd (Or.inl rfl) n6,
  fun h5=>h.o5 (ol h5),
  fun _=>⟨⟨a0,c0,a1,c1,rfl,q,r⟩,z1,z2,z3,z4⟩,
  fun h7=>absurd (ol h7) n7,
  fun h8=>absurd (ol h8) n8,
  fun h9=>absurd (ol h9) n9,
  fun h10=>absurd (ol h10) n10,
  fun h11=>h.a (ol h11),
  fun n13=>h.za (fun z=>n13 (Or.inr z)),
  fun h13=>absurd (ol h13) n13,
  fun h12=>h.b (ol h12),
  fun n14=>h.zb (fun z=>n14 (Or.inr z)),
  fun h14=>absurd (ol h14) n14,
  fun h11 h12=>h.ne (ol h11) (ol h12),
  fun _ h11=>Or.inl (kA (ol h11)),
  fun _ h12=>Or.inl (kB (ol h12)),
  fun _=>Or.inl rfl,
  fun _=>Or.inl rfl,
  fun _=>Or.inl rfl,
  fun _=>Or.inl rfl,
  fun _=>Or.inl rfl,
  fun _=>Or.inl rfl,
  fun h13=>Or.inr (h.f13 (ol h13)),
  fun h14=>Or.inr (h.f14 (ol h14))⟩
theorem Rg.s7 (h:Rg t nm p now rla rk rm rq rs rf rb rc rn ks rl w w0 L y10 y11 y37 y38 y39 y40 y41 y42 y43 y44 y45 y46 y47 KA KB lo mid hi CA CB V) (g6:L 6):Rg t nm p now rla rk rm rq rs rf rb rc rn ks rl w w0 (fun j=>j=7∨L j) y10 y11 y44 y38 y39 y40 y41 y42 y43 y44 y45 y46 y47 KA KB lo mid hi CA CB V:=
 ⟨h.m,
  fun h0=>h.o0 (ol h0),
  fun h1 n6=>h.o1 (ol h1) (fun z=>n6 (Or.inr z)),
  fun h2=>h.o2 (ol h2),
  fun h3=>h.o3 (ol h3),
  fun h4 n6=>h.o4 (ol h4) (fun z=>n6 (Or.inr z)),
  fun h5=>h.o5 (ol h5),
  fun h6=>h.o6 (ol h6),
  fun _=>rfl,
  fun h8=>h.o8 (ol h8),
  fun h9=>h.o9 (ol h9),
  fun h10=>h.o10 (ol h10),
  fun h11=>h.a (ol h11),
  fun n13=>h.za (fun z=>n13 (Or.inr z)),
  fun h13=>h.sa (ol h13),
  fun h12=>h.b (ol h12),
  fun n14=>h.zb (fun z=>n14 (Or.inr z)),
  fun h14=>h.sb (ol h14),
  fun h11 h12=>h.ne (ol h11) (ol h12),
  fun h6 h11=>h.pa (ol h6) (ol h11),
  fun h6 h12=>h.pb (ol h6) (ol h12),
  fun _=>Or.inr g6,
  fun h8=>Or.inr (h.d8 (ol h8)),
  fun h9=>Or.inr (h.d9 (ol h9)),
  fun h10=>Or.inr (h.d10 (ol h10)),
  fun h13=>Or.inr (h.e13 (ol h13)),
  fun h14=>Or.inr (h.e14 (ol h14)),
  fun h13=>Or.inr (h.f13 (ol h13)),
  fun h14=>Or.inr (h.f14 (ol h14))⟩
theorem Rg.s8 (h:Rg t nm p now rla rk rm rq rs rf rb rc rn ks rl w w0 L y10 y11 y37 y38 y39 y40 y41 y42 y43 y44 y45 y46 y47 KA KB lo mid hi CA CB V) (g6:L 6) {x y z:Value} (e:y44=.tuple #[x,y,z]):Rg t nm p now rla rk rm rq rs rf rb rc rn ks rl w w0 (fun j=>j=8∨L j) y10 y11 y37 y38 y39 y40 y41 y42 y43 y44 x y46 y47 KA KB lo mid hi CA CB V:=
 ⟨h.m,
  fun h0=>h.o0 (ol h0),
  fun h1 n6=>h.o1 (ol h1) (fun z=>n6 (Or.inr z)),
  fun h2=>h.o2 (ol h2),
  fun h3=>h.o3 (ol h3),
  fun h4 n6=>h.o4 (ol h4) (fun z=>n6 (Or.inr z)),
  fun h5=>h.o5 (ol h5),
  fun h6=>h.o6 (ol h6),
  fun h7=>h.o7 (ol h7),
  fun _=>⟨x,y,z,e,rfl⟩,
  fun h9=>h.o9 (ol h9),
  fun h10=>h.o10 (ol h10),
  fun h11=>h.a (ol h11),
  fun n13=>h.za (fun z=>n13 (Or.inr z)),
  fun h13=>h.sa (ol h13),
  fun h12=>h.b (ol h12),
  fun n14=>h.zb (fun z=>n14 (Or.inr z)),
  fun h14=>h.sb (ol h14),
  fun h11 h12=>h.ne (ol h11) (ol h12),
  fun h6 h11=>h.pa (ol h6) (ol h11),
  fun h6 h12=>h.pb (ol h6) (ol h12),
  fun h7=>Or.inr (h.d7 (ol h7)),
  fun _=>Or.inr g6,
  fun h9=>Or.inr (h.d9 (ol h9)),
  fun h10=>Or.inr (h.d10 (ol h10)),
  fun h13=>Or.inr (h.e13 (ol h13)),
  fun h14=>Or.inr (h.e14 (ol h14)),
  fun h13=>Or.inr (h.f13 (ol h13)),
  fun h14=>Or.inr (h.f14 (ol h14))⟩
theorem Rg.s9 (h:Rg t nm p now rla rk rm rq rs rf rb rc rn ks rl w w0 L y10 y11 y37 y38 y39 y40 y41 y42 y43 y44 y45 y46 y47 KA KB lo mid hi CA CB V) (g6:L 6) {x y z:Value} (e:y44=.tuple #[x,y,z]):Rg t nm p now rla rk rm rq rs rf rb rc rn ks rl w w0 (fun j=>j=9∨L j) y10 y11 y37 y38 y39 y40 y41 y42 y43 y44 y45 y y47 KA KB lo mid hi CA CB V:=
 ⟨h.m,
  fun h0=>h.o0 (ol h0),
  fun h1 n6=>h.o1 (ol h1) (fun z=>n6 (Or.inr z)),
  fun h2=>h.o2 (ol h2),
  fun h3=>h.o3 (ol h3),
  fun h4 n6=>h.o4 (ol h4) (fun z=>n6 (Or.inr z)),
  fun h5=>h.o5 (ol h5),
  fun h6=>h.o6 (ol h6),
  fun h7=>h.o7 (ol h7),
  fun h8=>h.o8 (ol h8),
  fun _=>⟨x,y,z,e,rfl⟩,
  fun h10=>h.o10 (ol h10),
  fun h11=>h.a (ol h11),
  fun n13=>h.za (fun z=>n13 (Or.inr z)),
  fun h13=>h.sa (ol h13),
  fun h12=>h.b (ol h12),
  fun n14=>h.zb (fun z=>n14 (Or.inr z)),
  fun h14=>h.sb (ol h14),
  fun h11 h12=>h.ne (ol h11) (ol h12),
  fun h6 h11=>h.pa (ol h6) (ol h11),
  fun h6 h12=>h.pb (ol h6) (ol h12),
  fun h7=>Or.inr (h.d7 (ol h7)),
  fun h8=>Or.inr (h.d8 (ol h8)),
  fun _=>Or.inr g6,
  fun h10=>Or.inr (h.d10 (ol h10)),
  fun h13=>Or.inr (h.e13 (ol h13)),
  fun h14=>Or.inr (h.e14 (ol h14)),
  fun h13=>Or.inr (h.f13 (ol h13)),
  fun h14=>Or.inr (h.f14 (ol h14))⟩
theorem Rg.s10 (h:Rg t nm p now rla rk rm rq rs rf rb rc rn ks rl w w0 L y10 y11 y37 y38 y39 y40 y41 y42 y43 y44 y45 y46 y47 KA KB lo mid hi CA CB V) (g6:L 6) {x y z:Value} (e:y44=.tuple #[x,y,z]):Rg t nm p now rla rk rm rq rs rf rb rc rn ks rl w w0 (fun j=>j=10∨L j) y10 y11 y37 y38 y39 y40 y41 y42 y43 y44 y45 y46 z KA KB lo mid hi CA CB V:=
 ⟨h.m,
  fun h0=>h.o0 (ol h0),
  fun h1 n6=>h.o1 (ol h1) (fun z=>n6 (Or.inr z)),
  fun h2=>h.o2 (ol h2),
  fun h3=>h.o3 (ol h3),
  fun h4 n6=>h.o4 (ol h4) (fun z=>n6 (Or.inr z)),
  fun h5=>h.o5 (ol h5),
  fun h6=>h.o6 (ol h6),
  fun h7=>h.o7 (ol h7),
  fun h8=>h.o8 (ol h8),
  fun h9=>h.o9 (ol h9),
  fun _=>⟨x,y,z,e,rfl⟩,
  fun h11=>h.a (ol h11),
  fun n13=>h.za (fun z=>n13 (Or.inr z)),
  fun h13=>h.sa (ol h13),
  fun h12=>h.b (ol h12),
  fun n14=>h.zb (fun z=>n14 (Or.inr z)),
  fun h14=>h.sb (ol h14),
  fun h11 h12=>h.ne (ol h11) (ol h12),
  fun h6 h11=>h.pa (ol h6) (ol h11),
  fun h6 h12=>h.pb (ol h6) (ol h12),
  fun h7=>Or.inr (h.d7 (ol h7)),
  fun h8=>Or.inr (h.d8 (ol h8)),
  fun h9=>Or.inr (h.d9 (ol h9)),
  fun _=>Or.inr g6,
  fun h13=>Or.inr (h.e13 (ol h13)),
  fun h14=>Or.inr (h.e14 (ol h14)),
  fun h13=>Or.inr (h.f13 (ol h13)),
  fun h14=>Or.inr (h.f14 (ol h14))⟩
theorem Rg.s11 (h:Rg t nm p now rla rk rm rq rs rf rb rc rn ks rl w w0 L y10 y11 y37 y38 y39 y40 y41 y42 y43 y44 y45 y46 y47 KA KB lo mid hi CA CB V) (n13:¬ L 13):Rg t nm p now rla rk rm rq rs rf rb rc rn ks rl w w0 (fun j=>j=11∨L j) (.pointer (some ⟨V.heap.size,0,none⟩)) y11 y37 y38 y39 y40 y41 y42 y43 y44 y45 y46 y47 V.heap.size KB lo mid hi #[.int .i64 0,.slice none 0 0] CB (V.alloc (.cells #[.int .i64 0,.slice none 0 0] 34)):=by
 have h2:=h.grow (bel1 (.cells #[.int .i64 0,.slice none 0 0] 34))
 exact ⟨h2.m,
  fun h0=>h.o0 (ol h0),
  fun h1 n6=>h2.o1 (ol h1) (fun z=>n6 (Or.inr z)),
  fun h2=>h.o2 (ol h2),
  fun h3=>h.o3 (ol h3),
  fun h4 n6=>h2.o4 (ol h4) (fun z=>n6 (Or.inr z)),
  fun h5=>h.o5 (ol h5),
  fun h6=>h2.o6 (ol h6),
  fun h7=>h.o7 (ol h7),
  fun h8=>h.o8 (ol h8),
  fun h9=>h.o9 (ol h9),
  fun h10=>h.o10 (ol h10),
  fun _=>⟨rfl,Cbx.new V #[.int .i64 0,.slice none 0 0] 34,h.m.two.lt,h.m.now.size⟩,
  fun _=>rfl,
  fun h13=>absurd (ol h13) n13,
  fun h12=>h2.b (ol h12),
  fun n14=>h.zb (fun z=>n14 (Or.inr z)),
  fun h14=>h.sb (ol h14),
  fun _ h12=>by have:=(h.b (ol h12)).2.1.lt; omega,
  fun h6 _=>Or.inr (h.o6 (ol h6)).2.2.2.2,
  fun h6 h12=>h.pb (ol h6) (ol h12),
  fun h7=>Or.inr (h.d7 (ol h7)),
  fun h8=>Or.inr (h.d8 (ol h8)),
  fun h9=>Or.inr (h.d9 (ol h9)),
  fun h10=>Or.inr (h.d10 (ol h10)),
  fun h13=>Or.inr (h.e13 (ol h13)),
  fun h14=>Or.inr (h.e14 (ol h14)),
  fun _=>Or.inl rfl,
  fun h14=>Or.inr (h.f14 (ol h14))⟩
theorem Rg.s12 (h:Rg t nm p now rla rk rm rq rs rf rb rc rn ks rl w w0 L y10 y11 y37 y38 y39 y40 y41 y42 y43 y44 y45 y46 y47 KA KB lo mid hi CA CB V) (n14:¬ L 14):Rg t nm p now rla rk rm rq rs rf rb rc rn ks rl w w0 (fun j=>j=12∨L j) y10 (.pointer (some ⟨V.heap.size,0,none⟩)) y37 y38 y39 y40 y41 y42 y43 y44 y45 y46 y47 KA V.heap.size lo mid hi CA #[.int .i64 0,.string ⟨#[]⟩,.int .i64 0,.int .i64 0,.int .i64 0,.slice none 0 0,.int .i64 0,.int .i64 0] (V.alloc (.cells #[.int .i64 0,.string ⟨#[]⟩,.int .i64 0,.int .i64 0,.int .i64 0,.slice none 0 0,.int .i64 0,.int .i64 0] 40)):=by
 have h2:=h.grow (bel1 (.cells #[.int .i64 0,.string ⟨#[]⟩,.int .i64 0,.int .i64 0,.int .i64 0,.slice none 0 0,.int .i64 0,.int .i64 0] 40))
 exact ⟨h2.m,
  fun h0=>h.o0 (ol h0),
  fun h1 n6=>h2.o1 (ol h1) (fun z=>n6 (Or.inr z)),
  fun h2=>h.o2 (ol h2),
  fun h3=>h.o3 (ol h3),
  fun h4 n6=>h2.o4 (ol h4) (fun z=>n6 (Or.inr z)),
  fun h5=>h.o5 (ol h5),
  fun h6=>h2.o6 (ol h6),
  fun h7=>h.o7 (ol h7),
  fun h8=>h.o8 (ol h8),
  fun h9=>h.o9 (ol h9),
  fun h10=>h.o10 (ol h10),
  fun h11=>h2.a (ol h11),
  fun n13=>h.za (fun z=>n13 (Or.inr z)),
  fun h13=>h.sa (ol h13),
  fun _=>⟨rfl,Cbx.new V #[.int .i64 0,.string ⟨#[]⟩,.int .i64 0,.int .i64 0,.int .i64 0,.slice none 0 0,.int .i64 0,.int .i64 0] 40,h.m.two.lt,h.m.now.size⟩,
  fun _=>rfl,
  fun h14=>absurd (ol h14) n14,
  fun h11 _=>by have:=(h.a (ol h11)).2.1.lt; omega,
  fun h6 h11=>h.pa (ol h6) (ol h11),
  fun h6 _=>Or.inr (h.o6 (ol h6)).2.2.2.2,
  fun h7=>Or.inr (h.d7 (ol h7)),
  fun h8=>Or.inr (h.d8 (ol h8)),
  fun h9=>Or.inr (h.d9 (ol h9)),
  fun h10=>Or.inr (h.d10 (ol h10)),
  fun h13=>Or.inr (h.e13 (ol h13)),
  fun h14=>Or.inr (h.e14 (ol h14)),
  fun h13=>Or.inr (h.f13 (ol h13)),
  fun _=>Or.inl rfl⟩
theorem Rg.q (h:Rg t nm p now rla rk rm rq rs rf rb rc rn ks rl w w0 L y10 y11 y37 y38 y39 y40 y41 y42 y43 y44 y45 y46 y47 KA KB lo mid hi CA CB V) (h11:L 11) (h12:L 12):TwoQ w w0 V #[.int .i64 t.la,.slice t.a t.ts.length t.cap] #[.int .i64 p.q,.int .i64 p.s,.slice p.a p.l.length p.cap,.int .i64 p.fr,.int .i64 p.b] KA CA KB CB:=⟨h.m,(h.a h11).2.1,(h.b h12).2.1,(h.a h11).2.2.1,(h.a h11).2.2.2,(h.b h12).2.2.1,(h.b h12).2.2.2,h.ne h11 h12⟩
theorem Rg.s13 (h:Rg t nm p now rla rk rm rq rs rf rb rc rn ks rl w w0 L y10 y11 y37 y38 y39 y40 y41 y42 y43 y44 y45 y46 y47 KA KB lo mid hi CA CB V) (g6:L 6) (g11:L 11) (g12:L 12) {cs:Array Value} {y z:Value} (e:y44=.tuple #[.agg cs,y,z]):Rg t nm p now rla rk rm rq rs rf rb rc rn ks rl w w0 (fun j=>j=13∨L j) y10 y11 y37 y38 y39 y40 y41 y42 y43 y44 y45 y46 y47 KA KB lo mid hi cs CB (V.setRow KA cs):=by
 have q:=(h.q g11 g12).rowK cs
 exact ⟨q.both,
  fun h0=>h.o0 (ol h0),
  fun _ n6=>absurd (Or.inr g6) n6,
  fun h2=>h.o2 (ol h2),
  fun h3=>h.o3 (ol h3),
  fun _ n6=>absurd (Or.inr g6) n6,
  fun h5=>h.o5 (ol h5),
  fun _=>by obtain ⟨⟨a0,c0,a1,c1,e1,r0,r1⟩,z1,z2,z3,z4⟩:=h.o6 g6; have hk:=h.pa g6 g11; exact ⟨⟨a0,c0,a1,c1,e1,r0.iv (iv_row V KA cs) (by omega),r1.iv (iv_row V KA cs) (by omega)⟩,z1,z2,z3,by rw [setRow_size]; exact z4⟩,
  fun h7=>h.o7 (ol h7),
  fun h8=>h.o8 (ol h8),
  fun h9=>h.o9 (ol h9),
  fun h10=>h.o10 (ol h10),
  fun _=>⟨(h.a g11).1,q.boxK,(h.a g11).2.2⟩,
  fun n=>absurd (Or.inl rfl) n,
  fun _=>⟨y,z,e⟩,
  fun _=>⟨(h.b g12).1,q.boxL,(h.b g12).2.2⟩,
  fun n14=>h.zb (fun z=>n14 (Or.inr z)),
  fun h14=>h.sb (ol h14),
  fun h11 h12=>h.ne (ol h11) (ol h12),
  fun h6 h11=>h.pa (ol h6) (ol h11),
  fun h6 h12=>h.pb (ol h6) (ol h12),
  fun h7=>Or.inr (h.d7 (ol h7)),
  fun h8=>Or.inr (h.d8 (ol h8)),
  fun h9=>Or.inr (h.d9 (ol h9)),
  fun h10=>Or.inr (h.d10 (ol h10)),
  fun _=>Or.inr g6,
  fun h14=>Or.inr (h.e14 (ol h14)),
  fun _=>Or.inr g11,
  fun h14=>Or.inr (h.f14 (ol h14))⟩
theorem Rg.s14 (h:Rg t nm p now rla rk rm rq rs rf rb rc rn ks rl w w0 L y10 y11 y37 y38 y39 y40 y41 y42 y43 y44 y45 y46 y47 KA KB lo mid hi CA CB V) (g6:L 6) (g11:L 11) (g12:L 12) {cs:Array Value} {x z:Value} (e:y44=.tuple #[x,.agg cs,z]):Rg t nm p now rla rk rm rq rs rf rb rc rn ks rl w w0 (fun j=>j=14∨L j) y10 y11 y37 y38 y39 y40 y41 y42 y43 y44 y45 y46 y47 KA KB lo mid hi CA cs (V.setRow KB cs):=by
 have q:=(h.q g11 g12).rowL cs
 exact ⟨q.both,
  fun h0=>h.o0 (ol h0),
  fun _ n6=>absurd (Or.inr g6) n6,
  fun h2=>h.o2 (ol h2),
  fun h3=>h.o3 (ol h3),
  fun _ n6=>absurd (Or.inr g6) n6,
  fun h5=>h.o5 (ol h5),
  fun _=>by obtain ⟨⟨a0,c0,a1,c1,e1,r0,r1⟩,z1,z2,z3,z4⟩:=h.o6 g6; have hk:=h.pb g6 g12; exact ⟨⟨a0,c0,a1,c1,e1,r0.iv (iv_row V KB cs) (by omega),r1.iv (iv_row V KB cs) (by omega)⟩,z1,z2,z3,by rw [setRow_size]; exact z4⟩,
  fun h7=>h.o7 (ol h7),
  fun h8=>h.o8 (ol h8),
  fun h9=>h.o9 (ol h9),
  fun h10=>h.o10 (ol h10),
  fun _=>⟨(h.a g11).1,q.boxK,(h.a g11).2.2⟩,
  fun n13=>h.za (fun z=>n13 (Or.inr z)),
  fun h13=>h.sa (ol h13),
  fun _=>⟨(h.b g12).1,q.boxL,(h.b g12).2.2⟩,
  fun n=>absurd (Or.inl rfl) n,
  fun _=>⟨x,z,e⟩,
  fun h11 h12=>h.ne (ol h11) (ol h12),
  fun h6 h11=>h.pa (ol h6) (ol h11),
  fun h6 h12=>h.pb (ol h6) (ol h12),
  fun h7=>Or.inr (h.d7 (ol h7)),
  fun h8=>Or.inr (h.d8 (ol h8)),
  fun h9=>Or.inr (h.d9 (ol h9)),
  fun h10=>Or.inr (h.d10 (ol h10)),
  fun h13=>Or.inr (h.e13 (ol h13)),
  fun _=>Or.inr g6,
  fun h13=>Or.inr (h.f13 (ol h13)),
  fun _=>Or.inr g12⟩
theorem Rg.zero (m:TwoX w w0 V #[.int .i64 t.la,.slice t.a t.ts.length t.cap] #[.int .i64 p.q,.int .i64 p.s,.slice p.a p.l.length p.cap,.int .i64 p.fr,.int .i64 p.b]):Rg t nm p now rla rk rm rq rs rf rb rc rn ks rl w w0 (fun _=>False) y10 y11 y37 y38 y39 y40 y41 y42 y43 y44 y45 y46 y47 0 0 0 0 0 #[.int .i64 0,.slice none 0 0] #[.int .i64 0,.string ⟨#[]⟩,.int .i64 0,.int .i64 0,.int .i64 0,.slice none 0 0,.int .i64 0,.int .i64 0] V:=
 ⟨m,fun h=>h.elim,fun h=>h.elim,fun h=>h.elim,fun h=>h.elim,fun h=>h.elim,fun h=>h.elim,fun h=>h.elim,fun h=>h.elim,fun h=>h.elim,fun h=>h.elim,fun h=>h.elim,fun h=>h.elim,fun _=>rfl,fun h=>h.elim,fun h=>h.elim,fun _=>rfl,fun h=>h.elim,fun h=>h.elim,fun h=>h.elim,fun h=>h.elim,fun h=>h.elim,fun h=>h.elim,fun h=>h.elim,fun h=>h.elim,fun h=>h.elim,fun h=>h.elim,fun h=>h.elim,fun h=>h.elim⟩
end
theorem cl_newL (W:World) (u:Hd) (T:TypeId):∀ j v,u.cl[j]? = some v→(W.alloc (.cells #[.string u.nm,.int .i64 u.n,.int .i64 u.p.q,.int .i64 u.p.s,.slice u.p.a u.p.l.length u.p.cap,.int .i64 u.p.fr,.int .i64 u.p.b,.int .i64 u.sn,.int .i64 u.x.q,.int .i64 u.x.s,.slice u.x.a u.x.l.length u.x.cap,.int .i64 u.x.fr,.int .i64 u.x.b] T)).cell? ((⟨W.heap.size,0,none⟩:Addr).add j)=some v:=by
 intro j v hj
 have hn:=HdIn.new W u T
 rw [Addr.add_mid]
 exact hn.cs j v hj
theorem cl_one (u:Hd):∀ v∈u.cl,v.oneCell' = true:=by
 intro v hv
 simp only [Hd.cl,List.mem_cons,List.not_mem_nil,or_false] at hv
 rcases hv with rfl | rfl | rfl | rfl | rfl | rfl | rfl | rfl | rfl | rfl | rfl | rfl | rfl <;> rfl
theorem keys_push {ts us:List Hd} {k:Nat} {t u:Hd} (h:us.map Hd.key=(ts.take k).map Hd.key) (ht:ts[k]? = some t) (hu:u.key=t.key):(us ++ [u]).map Hd.key=(ts.take (k+1)).map Hd.key:=by
 rw [List.take_add_one,ht,List.map_append,List.map_append,h]
 simp [hu]
theorem keys_len {ts us:List Hd} {k:Nat} (h:us.map Hd.key=(ts.take k).map Hd.key) (hk:k≤ts.length):us.length=k:=by
 have:=congrArg List.length h
 simp at this
 omega
structure CbW (w wr:World) (la:Int) (va v:Value) (us:List Hd):Prop where
 old:Below w.heap.size w wr
 arg:Cbx wr w.heap.size #[.int .i64 la,va]
 res:Cbx wr (w.heap.size+1) #[.int .i64 0,.slice none 0 0]
 bk:Cbx wr (w.heap.size+1+1) #[.int .i64 la,v]
 own:BkOwn wr (w.heap.size+1+1+1) v us
theorem CbW.keep {w wr w2:World} {la:Int} {va v:Value} {us:List Hd} (h:CbW w wr la va v us) (hb:Below wr.heap.size wr w2):CbW w w2 la va v us:=
 ⟨h.old.trans (hb.mono h.old.size),h.arg.keep hb,h.res.keep hb,h.bk.keep hb,h.own.below hb⟩
theorem CbW.grow {w W w':World} {la:Int} {va v:Value} {us:List Hd} (h:CbW w W la va v us) (hg:W.grownBy w' v.ownBlock):Cbx w' w.heap.size #[.int .i64 la,va]∧Cbx w' (w.heap.size+1) #[.int .i64 0,.slice none 0 0]∧Cbx w' (w.heap.size+1+1) #[.int .i64 la,v]:=by
 have hs:Spared v.ownBlock.toList W w':=Spared.grown hg (by simp)
 have hb:=owns_base h.own.row
 exact ⟨h.arg.spared hs (fun e=>by have:=hb _ (by simpa using e); omega),h.res.spared hs (fun e=>by have:=hb _ (by simpa using e); omega),h.bk.spared hs (fun e=>by have:=hb _ (by simpa using e); omega)⟩
theorem CbW.push {w W w':World} {la:Int} {va v v':Value} {us:List Hd} {u:Hd} (h:CbW w W la va v us) (ho:w'.ownsRow (w.heap.size+1+1+1) 63 13 v' (us.length+1) (hdCells us ++ u.cl)) (hg:W.grownBy w' v.ownBlock) (hu:HdOwn W (w.heap.size+1+1+1) u) (ha:∀ t∈us,HdApart t u) :
  CbW w (w'.setCell ⟨w.heap.size+1+1,1,none⟩ v') la va v' (us ++ [u]):=by
 have hbase:=owns_base h.own.row
 obtain ⟨g0,g1,g2⟩:=h.grow hg
 have hN:=h.own.push ho hg hu ha
 refine ⟨?_,bx_other g0 (by omega) _ _,bx_other g1 (by omega) _ _,?_,?_⟩
 ·exact (h.old.grown hg h.old.size (fun k e=>by have:=hbase k e; omega)).setCell (by show _≤w.heap.size+1+1; omega) _
 ·exact bx_set g2 1 v'
 ·have hlt:=hN.lt
  refine hN.spared (S:=[w.heap.size+1+1]) (Spared.grown (grown_set _ _ _) (by simp)) (fun k hk hk'=>?_)
  simp at hk'
  have:=(hlt k hk).1
  omega
structure HrW (w W:World) (K base:Nat) (la:Int) (v:Value) (us:List Hd):Prop where
 old:Below w.heap.size w W
 k:w.heap.size≤K
 kb:K < base
 bk:Cbx W K #[.int .i64 la,v]
 own:BkOwn W base v us
theorem HrW.keep {w W W':World} {K base:Nat} {la:Int} {v:Value} {us:List Hd} (h:HrW w W K base la v us) (hb:Below W.heap.size W W'):HrW w W' K base la v us:=
 ⟨h.old.trans (hb.mono h.old.size),h.k,h.kb,h.bk.keep hb,h.own.below hb⟩
end Go.Proofs.YtgjleeamhkolhaaGreatDoor
