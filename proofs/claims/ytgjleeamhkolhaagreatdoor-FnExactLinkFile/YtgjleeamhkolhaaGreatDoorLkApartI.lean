/- Joined texts: LkApartI. -/
import Derived.Test.YtgjleeamhkolhaaGreatDoorLkTubesI
import Derived.Test.YtgjleeamhkolhaaGreatDoorJ12
import Derived.Test.YtgjleeamhkolhaaGreatDoorJ01
namespace Go.Proofs.YtgjleeamhkolhaaGreatDoor
open Go.RowKit
theorem tkey_len {now:Int} {x:NP} (_h:x.2.l.length≤1048576):(tkey now x).2.length≤1048576:=
 Nat.le_trans (cutBx_len _ now) (Nat.le_trans (tubeL_len _ _ _ _ _) (by omega))
theorem tubes_small {now:Int} {ts:List Hd} {us:List Tb} (hsm:∀ t∈ts,t.p.l.length≤1048576∧t.x.l.length≤1048576) (hk:us.map key=(mayL ts).map (tkey now)):∀ u∈us,u.l.length≤1048576:=fun u hu=>by
 have h1:key u∈(mayL ts).map (tkey now):=by rw [← hk]; exact List.mem_map_of_mem hu
 obtain ⟨x,hx,he⟩:=List.mem_map.1 h1
 obtain ⟨t,ht,h2⟩:=of_may (⟨x,hx⟩:NE ts)
 have h3:=tkey_len (now:=now) (fly_size h2 (hsm t ht).1 (hsm t ht).2)
 rw [he] at h3
 exact h3
theorem tubes_len {now:Int} {ts:List Hd} {us:List Tb} (hk:us.map key=(mayL ts).map (tkey now)):us.length=2 * ts.length:=by
 have:=congrArg List.length hk
 rw [List.length_map,List.length_map,mayL_length] at this
 exact this
theorem TubesAt.take {w : World} {a : Option Addr} {b o : Nat} {us : List Tb} (h : TubesAt w a b o us) (k : Nat) : TubesAt w a b o (us.take k) := by
  have hn : us.take k ≠ [] → us ≠ [] := fun h e => by subst e; simp at h
  exact ⟨fun e => h.here (hn e), fun e => h.lt (hn e), fun i t hi => h.cell i t (by rw [List.getElem?_take] at hi; split at hi; · exact hi
                                                                                    · cases hi), fun t ht => h.each t (List.mem_of_mem_take ht)⟩
set_option maxHeartbeats 4000000 in
set_option maxRecDepth 20000 in
theorem apart_any (hI:SpansSaid) (la now:Int) (a:Option Addr) (b o ca:Nat) (ts:List Hd) (v:Bool) (w:World) (h8:ts.length≤8) (hsm:∀ t∈ts,t.p.l.length≤1048576∧t.x.l.length≤1048576) (hs:HdsAt w a b o ts) (hv:apartK ((mayL ts).map (tkey now))=v) :
  Calls Tryz.prog 96 #[.agg #[.int .i64 la,.slice a ts.length ca],.int .i64 now] w fun e w'=>e=.returned (.bool v)∧Below w.heap.size w w':=by
 have B0:=bel1 (w:=w) (.cells #[.int .i64 la,.slice a ts.length ca] 34)
 go_enter Tryz.func96,Tryz.ntmps96
 go_wp2_with fail
 refine (tubesI_any hI la now a b o ca ts _ (by omega) hsm (hs.below B0)).mono ?_
 rintro e w1 ⟨us,a1,g,c1,rfl,hkc,hk,hT,hb1⟩
 have B1:=B0.trans (hb1.mono B0.size)
 have hul:=tubes_len hk
 have hus:=tubes_small hsm hk
 rw [← hk] at hv
 have HV:Hid (apartK (us.map key)=v):=hv
 have hu16:us.length≤16:=by omega
 clear hb1 B0 hk hul hv
 go_wp2
 go_loopw [13] (fun x wr=>∃ k:Nat,k≤us.length∧x=.int .i64 k∧Below w1.heap.size w1 wr∧apartK ((us.take k).map key)=true) (fun x _=>us.length - (intOf x).toNat)
 case atStart=>exact ⟨0,Nat.zero_le _,rfl,Below.refl _ _,rfl⟩
 case round =>
  obtain ⟨k,hk,rfl,hb,hap⟩:=hrel
  have HA:Hid (apartK ((us.take k).map key)=true):=hap
  have BW:=B1.trans (hb.mono B1.size)
  clear hap
  by_cases hlt:k < us.length
  ·obtain ⟨t,htk⟩:∃ t,us[k]? = some t:=⟨us[k],List.getElem?_eq_getElem hlt⟩
   have hne:us≠[]:=by intro e; subst e; simp at hlt
   obtain rfl:=hT.here hne
   have hm:=List.mem_of_getElem? htk
   have hTb:=hT.below hb
   obtain ⟨c0,c1'⟩:=hTb.two htk
   simp only [Nat.zero_add] at c0 c1'
   have k0:(0:Int)≤(k:Int):=by omega
   have k1:(k:Int) < (us.length:Int):=by omega
   have k2:(k:Int)≤(us.length:Int):=by omega
   have B2:=bel1 (w:=wr) (.cells #[.string t.nm,.slice t.a t.l.length t.cap] 132)
   have X2:=heap_alloc_new wr (.cells #[.string t.nm,.slice t.a t.l.length t.cap] 132)
   obtain ⟨x0,x1,xf⟩:=blk2 X2
   have hlk:(us.take k).length=k:=by rw [List.length_take]; omega
   have HS:Hid (apartK ((us.take (k+1)).map key) = !(othersB t t.nm (us.take k))):=by
    show _=_
    rw [List.take_add_one,htk,List.map_append]
    show apartK ((us.take k).map key ++ [key t])=_
    rw [apartK_snoc,HA.out,others_key,Bool.true_and]
   have HP:Hid (∀ v,apartK ((us.take (k+1)).map key)=v→v=false→apartK (us.map key)=false):=fun v h1 h2=>by
    rw [← List.take_append_drop (k+1) us,List.map_append]
    exact apartK_pre (h1.trans h2)
   have hU:∀ u:Cls (wr.alloc (.cells #[.string t.nm,.slice t.a t.l.length t.cap] 132)),Calls Tryz.prog 99 #[t.val,.string t.nm,.slice (some ⟨g,0,none⟩) k c1] u.it fun e w'=>e=.returned (.bool (othersB t t.nm (us.take k)))∧Below u.it.heap.size u.it w':=fun u=>by
    have h:=others_any t t.nm (some ⟨g,0,none⟩) g 0 c1 (us.take k) u.it (by omega) (hus t hm) (fun x hx=>hus x (List.mem_of_mem_take hx)) (((hTb.below B2).each t hm).below u.same) (((hTb.below B2).below u.same).take k)
    rw [hlk] at h
    exact h
   have hkd:k≤c1:=by omega
   have qn:=Cls.any (wr.alloc (.cells #[.string t.nm,.slice t.a t.l.length t.cap] 132))
   have q0:=Cls.cell (w:=wr.alloc (.cells #[.string t.nm,.slice t.a t.l.length t.cap] 132)) (lt_of_block X2)
   clear htk hlk
   cases hv2:othersB t t.nm (us.take k) with
   | true =>
    obtain rfl:false=v:=by rw [← HV.out]; exact (HP.out _ HS.out (by rw [hv2]; rfl)).symm
    rw [hv2] at hU
    clear hv2
    go_wp2
    refine wp_region_cls (by kernel_rfl) (by kernel_rfl) ?_
    repeat (go_big_quiet_step ((go_at_call 99; exact Calls.cls_of (hU _))))
    refine wpQuiet_nil ?_
    rintro _ ⟨u,rfl⟩
    clear c0 c1' x0 x1 q0 qn hU
    go_wp2
    go_ret
    exact ⟨rfl,(BW.trans (B2.mono BW.size)).trans (u.same.mono (BW.trans (B2.mono BW.size)).size)⟩
   | false =>
    have HN:Hid (apartK ((us.take (k+1)).map key)=true):=by show _=_; rw [HS.out,hv2]; rfl
    rw [hv2] at hU
    clear hv2
    go_wp2
    refine wp_region_cls (by kernel_rfl) (by kernel_rfl) ?_
    repeat (go_big_quiet_step ((go_at_call 99; exact Calls.cls_of (hU _))))
    refine wpQuiet_nil ?_
    rintro _ ⟨u,rfl⟩
    clear c0 c1' x0 x1 q0 qn hU
    go_wp2
    go_roundw
    case rel=>exact ⟨k+1,by omega,by go_num,(hb.trans (B2.mono hb.size)).trans (u.same.mono (hb.trans (B2.mono hb.size)).size),HN.out⟩
    case measure=>simp [intOf]; omega
  ·obtain rfl:k=us.length:=by omega
   obtain rfl:true=v:=by rw [← HV.out]; have h:=HA.out; rw [List.take_length] at h; exact h.symm
   go_wp2
   go_ret
   exact ⟨rfl,BW⟩
end Go.Proofs.YtgjleeamhkolhaaGreatDoor
