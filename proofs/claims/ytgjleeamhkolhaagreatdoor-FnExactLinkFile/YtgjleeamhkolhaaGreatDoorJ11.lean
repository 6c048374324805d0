/- Joined texts: PbMeetS2, PbMeetI. -/
import Derived.Deep.RegionHeld3
import Derived.Test.YtgjleeamhkolhaaGreatDoorPbMeetS
import Derived.Test.YtgjleeamhkolhaaGreatDoorJ05
import Derived.Test.YtgjleeamhkolhaaGreatDoorJ09
import Derived.Test.YtgjleeamhkolhaaGreatDoorJ04
import Derived.Test.YtgjleeamhkolhaaGreatDoorJ01
namespace Go.Proofs.YtgjleeamhkolhaaGreatDoor
open Go.RowKit
theorem tubeB_all {t:Tb} (h:tubeB t=true):t.l.all boxB=true:=by unfold tubeB at h; simp at h; simpa using h.2
theorem meetTB_no {t u:Tb} (h:tubeB t=false∨tubeB u=false):meetTB t u=none:=by unfold meetTB; rcases h with h | h <;> simp [h]
theorem meetTB_yes {t u:Tb} (h:tubeB t=true) (h':tubeB u=true):meetTB t u=meetOf t.l u.l (pairsN u.l.length t.l.length):=by unfold meetTB; simp [h,h']
structure MeetR (w wr:World) (t u:Tb):Prop where
 both:TwoT w wr t u
 res:wr.heap[w.heap.size+1+1]? = some (.cells #[.string ⟨#[]⟩,.string ⟨#[]⟩,.int .i64 0,.int .i64 0,.int .i64 0] 127 (0,0))
theorem MeetR.keep {w wr w2:World} {t u:Tb} (h:MeetR w wr t u) (hb:Below wr.heap.size wr w2):MeetR w w2 t u:=
 ⟨h.both.keep hb,(hb.block _ (lt_of_block h.res)).trans h.res⟩
theorem MeetR.new (w:World) (t u:Tb):MeetR w (((w.alloc (.cells #[.string t.nm,.slice t.a t.l.length t.cap] 132)).alloc (.cells #[.string u.nm,.slice u.a u.l.length u.cap] 132)).alloc (.cells #[.string ⟨#[]⟩,.string ⟨#[]⟩,.int .i64 0,.int .i64 0,.int .i64 0] 127)) t u:=by
 refine ⟨(TwoT.new w t u 132).keep (bel1 _),?_⟩
 have h1:=heap_alloc_new ((w.alloc (.cells #[.string t.nm,.slice t.a t.l.length t.cap] 132)).alloc (.cells #[.string u.nm,.slice u.a u.l.length u.cap] 132)) (.cells #[.string ⟨#[]⟩,.string ⟨#[]⟩,.int .i64 0,.int .i64 0,.int .i64 0] 127)
 rwa [World.size_alloc,World.size_alloc] at h1
set_option maxHeartbeats 4000000 in
set_option maxRecDepth 20000 in
theorem meetS_any (t u:Tb) (w:World) (hl:t.l.length≤1048576) (hm:u.l.length≤1048576) (ht:TubeAt w t) (hu:TubeAt w u) :
  Calls Tryz.prog 85 #[t.val,u.val] w fun e w'=>e=.returned (.tuple #[.agg (clashC t.nm u.nm (meetTB t u)),.bool (meetTB t u).isSome])∧Below w.heap.size w w':=by
 have M0:=MeetR.new w t u
 cases h1:tubeB t with
 | false =>
  have G:Hid (meetTB t u=none):=meetTB_no (.inl h1)
  have H1:Hid (tubeB t=false):=h1
  clear h1
  go_enter Tryz.func85,Tryz.ntmps85
  go_wp2_with fail
  refine (tubeOkS_val t false _ hl (ht.below (bel3 _ _ _)) H1.out).mono ?_
  rintro e w1 ⟨rfl,hb1⟩
  have M1:=M0.keep hb1
  obtain ⟨r0,r1,r2,r3,r4,rf⟩:=blk5 M1.res
  have HB:=M1.both.old
  clear M0 hb1
  go_wp2
  refine bodyPost_ret (v:=.tuple #[.agg #[.string ⟨#[]⟩,.string ⟨#[]⟩,.int .i64 0,.int .i64 0,.int .i64 0],.bool false]) (by simp [results,Tryz.results85,go_sem, *]) rfl ⟨by rw [G.out]; rfl,?_⟩
  iterate 5 (refine Below.setCell ?_ (by simp; omega) _)
  exact HB
 | true =>
  have H1:Hid (tubeB t=true):=h1
  cases h2:tubeB u with
  | false =>
   have G:Hid (meetTB t u=none):=meetTB_no (.inr h2)
   have H2:Hid (tubeB u=false):=h2
   clear h1 h2
   go_enter Tryz.func85,Tryz.ntmps85
   go_wp2_with fail
   refine (tubeOkS_val t true _ hl (ht.below (bel3 _ _ _)) H1.out).mono ?_
   rintro e w1 ⟨rfl,hb1⟩
   have M1:=M0.keep hb1
   have c0:=M1.both.two.c0
   have c1:=M1.both.two.c1
   clear M0 hb1
   go_wp2_with fail
   refine (tubeOkS_val u false _ hm (hu.below M1.both.old) H2.out).mono ?_
   rintro e w2 ⟨rfl,hb2⟩
   have M2:=M1.keep hb2
   obtain ⟨r0,r1,r2,r3,r4,rf⟩:=blk5 M2.res
   have HB:=M2.both.old
   clear M1 hb2 c0 c1
   go_wp2
   refine bodyPost_ret (v:=.tuple #[.agg #[.string ⟨#[]⟩,.string ⟨#[]⟩,.int .i64 0,.int .i64 0,.int .i64 0],.bool false]) (by simp [results,Tryz.results85,go_sem, *]) rfl ⟨by rw [G.out]; rfl,?_⟩
   iterate 5 (refine Below.setCell ?_ (by simp; omega) _)
   exact HB
  | true =>
   have G:Hid (meetTB t u=meetOf t.l u.l (pairsN u.l.length t.l.length)):=meetTB_yes h1 h2
   have H2:Hid (tubeB u=true):=h2
   clear h1 h2
   go_enter Tryz.func85,Tryz.ntmps85
   go_wp2_with fail
   refine (tubeOkS_val t true _ hl (ht.below (bel3 _ _ _)) H1.out).mono ?_
   rintro e w1 ⟨rfl,hb1⟩
   have M1:=M0.keep hb1
   have c0:=M1.both.two.c0
   have c1:=M1.both.two.c1
   clear M0 hb1
   go_wp2_with fail
   refine (tubeOkS_val u true _ hm (hu.below M1.both.old) H2.out).mono ?_
   rintro e w2 ⟨rfl,hb2⟩
   have M2:=M1.keep hb2
   clear M1 hb2 c0 c1
   have c0:=M2.both.one.c0
   have c1:=M2.both.one.c1
   have d0:=M2.both.two.c0
   have d1:=M2.both.two.c1
   go_wp2_with fail
   refine (meetLS_any t.nm u.nm t.a u.a t.b t.o t.cap u.b u.o u.cap t.l u.l _ hl hm (ht.below M2.both.old).at_ (hu.below M2.both.old).at_ (tubeB_all H1.out) (tubeB_all H2.out)).mono ?_
   rintro e w3 ⟨rfl,hb3⟩
   have M3:=M2.keep hb3
   obtain ⟨r0,r1,r2,r3,r4,rf⟩:=blk5 M3.res
   have HB:=M3.both.old
   clear M2 hb3 c0 c1 d0 d1
   obtain ⟨st,hst⟩:∃ st,meetOf t.l u.l (pairsN u.l.length t.l.length)=st:=⟨_,rfl⟩
   have HST:Hid (meetTB t u=st):=G.out.trans hst
   rw [hst]
   clear hst
   cases st with
   | none =>
    simp only [clashC,Option.isSome]
    go_wp2
    refine bodyPost_ret (v:=.tuple #[.agg #[.string ⟨#[]⟩,.string ⟨#[]⟩,.int .i64 0,.int .i64 0,.int .i64 0],.bool false]) (by simp [results,Tryz.results85,go_sem, *]) rfl ⟨by rw [HST.out]; rfl,?_⟩
    iterate 5 (refine Below.setCell ?_ (by simp; omega) _)
    exact HB
   | some z =>
    obtain ⟨zt,zi,zj⟩:=z
    simp only [clashC,Option.isSome]
    go_wp2
    refine bodyPost_ret (v:=.tuple #[.agg #[.string t.nm,.string u.nm,.int .i64 zt,.int .i64 zi,.int .i64 zj],.bool true]) (by simp [results,Tryz.results85,go_sem, *]) rfl ⟨by rw [HST.out]; rfl,?_⟩
    iterate 5 (refine Below.setCell ?_ (by simp; omega) _)
    exact HB
end Go.Proofs.YtgjleeamhkolhaaGreatDoor

namespace Go.Proofs.YtgjleeamhkolhaaGreatDoor
open Go.RowKit Go.Shelf
def Blk (W:World) (B:Nat) (C:Array Value) (t:TypeId):Prop:=W.heap[B]? = some (.cells C t (0,0))
theorem Blk.lt {W:World} {B:Nat} {C:Array Value} {t:TypeId} (h:Blk W B C t):B < W.heap.size:=(Array.getElem?_eq_some_iff.1 h).1
theorem Blk.keep {W W':World} {B:Nat} {C:Array Value} {t:TypeId} (h:Blk W B C t) (hb:Below W.heap.size W W'):Blk W' B C t:=(hb.block B h.lt).trans h
theorem Blk.new (W:World) (C:Array Value) (t:TypeId):Blk (W.alloc (.cells C t)) W.heap.size C t:=heap_alloc_new W _
theorem Blk.set {W:World} {B:Nat} {C:Array Value} {t:TypeId} (h:Blk W B C t) {p:Addr} (hp:p.block≠B) (v:Value):Blk (W.setCell p v) B C t:=(heap_setCell_other W p B v (fun e=>hp e.symm)).trans h
theorem Blk.one {W:World} {B:Nat} {v:Value} {t:TypeId} (h:Blk W B #[v] t):W.cell? ⟨B,0,none⟩=some v∧∀ j,W.frozen? ⟨B,j,none⟩=false:=
 ⟨by rw [cell_of_row W B 0 _ _ _ h]; rfl,fun j=>frozen_of_row W B j _ _ h⟩
theorem Blk.put1 {W:World} {B:Nat} {v:Value} {t:TypeId} (h:Blk W B #[v] t) (u:Value):Blk (W.setCell ⟨B,0,none⟩ u) B #[u] t:=by
 unfold Blk; rw [heap_setCell_same W B 0 _ _ _ h]; rfl
structure MeetB (w W:World) (t u:Tb):Prop where
 old:Below w.heap.size w W
 one:Blk W w.heap.size #[.string t.nm,.slice t.a t.l.length t.cap] 132
 two:Blk W (w.heap.size+1) #[.string u.nm,.slice u.a u.l.length u.cap] 132
 res:Blk W (w.heap.size+1+1) #[.string ⟨#[]⟩,.string ⟨#[]⟩,.int .i64 0,.int .i64 0,.int .i64 0] 127
theorem MeetB.keep {w W W':World} {t u:Tb} (h:MeetB w W t u) (hb:Below W.heap.size W W'):MeetB w W' t u:=
 ⟨h.old.trans (hb.mono h.old.size),h.one.keep hb,h.two.keep hb,h.res.keep hb⟩
theorem MeetB.lt {w W:World} {t u:Tb} (h:MeetB w W t u):w.heap.size+1+1 < W.heap.size:=h.res.lt
theorem MeetB.set {w W:World} {t u:Tb} (h:MeetB w W t u) {p:Addr} (hp:w.heap.size+1+1 < p.block) (v:Value):MeetB w (W.setCell p v) t u:=
 ⟨h.old.setCell (by omega) v,h.one.set (by omega) v,h.two.set (by omega) v,h.res.set (by omega) v⟩
theorem MeetB.new (w:World) (t u:Tb):MeetB w (((w.alloc (.cells #[.string t.nm,.slice t.a t.l.length t.cap] 132)).alloc (.cells #[.string u.nm,.slice u.a u.l.length u.cap] 132)).alloc (.cells #[.string ⟨#[]⟩,.string ⟨#[]⟩,.int .i64 0,.int .i64 0,.int .i64 0] 127)) t u where
 old:=bel3 _ _ _
 one:=((Blk.new w _ _).keep (bel1 _)).keep (bel1 _)
 two:=by have h:=(Blk.new (w.alloc (.cells #[.string t.nm,.slice t.a t.l.length t.cap] 132)) #[.string u.nm,.slice u.a u.l.length u.cap] 132).keep (bel1 (.cells #[.string ⟨#[]⟩,.string ⟨#[]⟩,.int .i64 0,.int .i64 0,.int .i64 0] 127)); rwa [World.size_alloc] at h
 res:=by have h:=Blk.new ((w.alloc (.cells #[.string t.nm,.slice t.a t.l.length t.cap] 132)).alloc (.cells #[.string u.nm,.slice u.a u.l.length u.cap] 132)) #[.string ⟨#[]⟩,.string ⟨#[]⟩,.int .i64 0,.int .i64 0,.int .i64 0] 127; rwa [World.size_alloc,World.size_alloc] at h
theorem MeetB.cells {w W:World} {t u:Tb} (h:MeetB w W t u):W.cell? ⟨w.heap.size,0,none⟩=some (.string t.nm)∧W.cell? ⟨w.heap.size,1,none⟩=some (.slice t.a t.l.length t.cap)∧W.cell? ⟨w.heap.size+1,0,none⟩=some (.string u.nm)∧W.cell? ⟨w.heap.size+1,1,none⟩=some (.slice u.a u.l.length u.cap):=
 ⟨(blk2 h.one).1,(blk2 h.one).2.1,(blk2 h.two).1,(blk2 h.two).2.1⟩
structure MeetE (w W:World) (t u:Tb) (B:Nat) (E:Int):Prop where
 all:MeetB w W t u
 ge:w.heap.size+1+1 < B
 box:Blk W B #[.int .i64 E] 3
theorem MeetE.keep {w W W':World} {t u:Tb} {B:Nat} {E:Int} (h:MeetE w W t u B E) (hb:Below W.heap.size W W'):MeetE w W' t u B E:=⟨h.all.keep hb,h.ge,h.box.keep hb⟩
theorem MeetE.new {w W:World} {t u:Tb} (h:MeetB w W t u) (E:Int):MeetE w (W.alloc (.cells #[.int .i64 E] 3)) t u W.heap.size E:=⟨h.keep (bel1 _),h.lt,Blk.new W _ _⟩
theorem MeetE.put {w W:World} {t u:Tb} {B:Nat} {E:Int} (h:MeetE w W t u B E) (E':Int):MeetE w (W.setCell ⟨B,0,none⟩ (.int .i64 E')) t u B E':=⟨h.all.set h.ge _,h.ge,h.box.put1 _⟩
theorem MeetE.cells {w W:World} {t u:Tb} {B:Nat} {E:Int} (h:MeetE w W t u B E):W.cell? ⟨w.heap.size,0,none⟩=some (.string t.nm)∧W.cell? ⟨w.heap.size,1,none⟩=some (.slice t.a t.l.length t.cap)∧W.cell? ⟨w.heap.size+1,0,none⟩=some (.string u.nm)∧W.cell? ⟨w.heap.size+1,1,none⟩=some (.slice u.a u.l.length u.cap):=h.all.cells
set_option maxHeartbeats 4000000 in
theorem meetI_no (t u : Tb) (w : World) (hl : t.l.length ≤ 1048576) (hm : u.l.length ≤ 1048576) (ht : TubeAt w t) (hu : TubeAt w u) (hno : tubeB t = false ∨ (tubeB t = true ∧ tubeB u = false)) :
    Calls Tryz.prog 128 #[t.val, u.val] w fun e w' => e = .returned (.tuple #[.agg (clashC t.nm u.nm (meetTB t u)), .bool (meetTB t u).isSome]) ∧ Below w.heap.size w w' := by
  have M0 := MeetB.new w t u
  have G : Hid (meetTB t u = none) := meetTB_no (by rcases hno with h | h; · exact .inl h
                                                    · exact .inr h.2)
  rcases hno with h1 | ⟨h1, h2⟩
  · have H1 : Hid (tubeB t = false) := h1
    clear h1
    go_enter Tryz.func128, Tryz.ntmps128
    go_wp2_with fail
    refine (tubeOk_val t false _ hl (ht.below (bel3 _ _ _)) H1.out).mono ?_
    rintro e w1 ⟨rfl, hb1⟩
    have M1 := M0.keep hb1
    obtain ⟨r0, r1, r2, r3, r4, rf⟩ := blk5 M1.res
    have HB := M1.old
    clear M0 hb1
    go_wp2
    refine bodyPost_ret (v := .tuple #[.agg #[.string ⟨#[]⟩, .string ⟨#[]⟩, .int .i64 0, .int .i64 0, .int .i64 0], .bool false]) (by simp [results, Tryz.results128, go_sem, *]) rfl ⟨by rw [G.out]; rfl, ?_⟩
    iterate 5 (refine Below.setCell ?_ (by simp; omega) _)
    exact HB
  · have H1 : Hid (tubeB t = true) := h1
    have H2 : Hid (tubeB u = false) := h2
    clear h1 h2
    go_enter Tryz.func128, Tryz.ntmps128
    go_wp2_with fail
    refine (tubeOk_val t true _ hl (ht.below (bel3 _ _ _)) H1.out).mono ?_
    rintro e w1 ⟨rfl, hb1⟩
    have M1 := M0.keep hb1
    obtain ⟨_, _, c0, c1⟩ := M1.cells
    clear M0 hb1
    go_wp2_with fail
    refine (tubeOk_val u false _ hm (hu.below M1.old) H2.out).mono ?_
    rintro e w2 ⟨rfl, hb2⟩
    have M2 := M1.keep hb2
    obtain ⟨r0, r1, r2, r3, r4, rf⟩ := blk5 M2.res
    have HB := M2.old
    clear M1 hb2 c0 c1
    go_wp2
    refine bodyPost_ret (v := .tuple #[.agg #[.string ⟨#[]⟩, .string ⟨#[]⟩, .int .i64 0, .int .i64 0, .int .i64 0], .bool false]) (by simp [results, Tryz.results128, go_sem, *]) rfl ⟨by rw [G.out]; rfl, ?_⟩
    iterate 5 (refine Below.setCell ?_ (by simp; omega) _)
    exact HB
end Go.Proofs.YtgjleeamhkolhaaGreatDoor
