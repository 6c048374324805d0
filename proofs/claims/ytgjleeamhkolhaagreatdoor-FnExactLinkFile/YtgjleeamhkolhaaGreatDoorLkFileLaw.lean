/- Joined texts: LkFileLaw. -/
import Derived.Deep.RegionHeld3
import Derived.Test.YtgjleeamhkolhaaGreatDoorJ13
namespace Go.Proofs.YtgjleeamhkolhaaGreatDoor
open Go.RowKit
set_option maxRecDepth 20000 in
theorem fileLaw_long (t:Bk) (nm:ByteArray) (p:Pt) (now:Int) (w:World) (_hnt:t.ts.length≤maxLen) (_htt:∀ u∈t.ts,u.nm.size≤maxLen∧u.p.l.length≤maxLen∧u.x.l.length≤maxLen) (_hbp:p.l.length≤maxLen) (_ht:BkAt w t) (_hp:PtAt w p) (hz:(1048576:Int) < (nm.size:Int)) :
  Calls Tryz.prog 3 #[.agg #[.int .i64 t.la,.slice t.a t.ts.length t.cap],.string nm,.agg #[.int .i64 p.q,.int .i64 p.s,.slice p.a p.l.length p.cap,.int .i64 p.fr,.int .i64 p.b],.int .i64 now] w fun e w'=>e=.returned (.bool true)∧Below w.heap.size w w':=by
 go_enter Tryz.func3,Tryz.ntmps3
 go_wp2
 go_ret
 exact ⟨rfl,by repeat (first | exact Below.refl _ _ | refine Below.alloc ?_ (by simp <;> omega) _)⟩
set_option maxRecDepth 20000 in
set_option maxHeartbeats 1000000 in
theorem fileLaw_big0 (t:Bk) (nm:ByteArray) (p:Pt) (now:Int) (w:World) (hnt:t.ts.length≤maxLen) (htt:∀ u∈t.ts,u.nm.size≤maxLen∧u.p.l.length≤maxLen∧u.x.l.length≤maxLen) (_hbp:p.l.length≤maxLen) (ht:BkAt w t) (_hp:PtAt w p) (hznm:¬ (1048576:Int) < (nm.size:Int))  (hbig:leftHs 1048576 t.ts < 0) :
  Calls Tryz.prog 3 #[.agg #[.int .i64 t.la,.slice t.a t.ts.length t.cap],.string nm,.agg #[.int .i64 p.q,.int .i64 p.s,.slice p.a p.l.length p.cap,.int .i64 p.fr,.int .i64 p.b],.int .i64 now] w fun e w'=>e=.returned (.bool true)∧Below w.heap.size w w':=by
 obtain ⟨W0,hW0⟩:∃ W0,(w.alloc (.cells #[.int .i64 t.la,.slice t.a t.ts.length t.cap] 24)).alloc (.cells #[.int .i64 p.q,.int .i64 p.s,.slice p.a p.l.length p.cap,.int .i64 p.fr,.int .i64 p.b] 29)=W0:=⟨_,rfl⟩
 have B_0:Below w.heap.size w W0:=by rw [← hW0]; repeat (first | exact Below.refl _ _ | refine Below.alloc ?_ (by simp <;> omega) _)
 have zW0:w.heap.size+2≤W0.heap.size:=by rw [← hW0]; simp
 have Tt_0:Cbx W0 w.heap.size #[.int .i64 t.la,.slice t.a t.ts.length t.cap]:=by rw [← hW0]; exact (Cbx.new (w) #[.int .i64 t.la,.slice t.a t.ts.length t.cap] 24).keep (bel1 (.cells #[.int .i64 p.q,.int .i64 p.s,.slice p.a p.l.length p.cap,.int .i64 p.fr,.int .i64 p.b] 29))
 have Tp_0:Cbx W0 (w.heap.size+1) #[.int .i64 p.q,.int .i64 p.s,.slice p.a p.l.length p.cap,.int .i64 p.fr,.int .i64 p.b]:=by rw [← hW0]; have h:=Cbx.new (w.alloc (.cells #[.int .i64 t.la,.slice t.a t.ts.length t.cap] 24)) #[.int .i64 p.q,.int .i64 p.s,.slice p.a p.l.length p.cap,.int .i64 p.fr,.int .i64 p.b] 29; simpa using h
 go_enter Tryz.func3,Tryz.ntmps3
 have c0:W0.cell? ⟨w.heap.size,0,none⟩=some (.int .i64 t.la):=Tt_0.c 0
 have c1:W0.cell? ⟨w.heap.size,1,none⟩=some (.slice t.a t.ts.length t.cap):=Tt_0.c 1
 go_wp2_with fail
 refine (szBook_any t _ _ hnt htt (by omega) (by omega) (ht.below B_0)).mono ?_
 rintro e s0 ⟨rfl,hb⟩
 clear c0 c1
 clear hW0
 have Tt_1:=Tt_0.keep hb
 have Tp_1:=Tp_0.keep hb
 have B_1:=B_0.trans (hb.mono B_0.size)
 clear Tt_0 Tp_0 B_0
 clear hb
 go_wp2
 go_ret
 exact ⟨rfl,B_1⟩
set_option maxRecDepth 20000 in
set_option maxHeartbeats 1000000 in
theorem fileLaw_big1 (t:Bk) (nm:ByteArray) (p:Pt) (now:Int) (w:World) (hnt:t.ts.length≤maxLen) (htt:∀ u∈t.ts,u.nm.size≤maxLen∧u.p.l.length≤maxLen∧u.x.l.length≤maxLen) (hbp:p.l.length≤maxLen) (ht:BkAt w t) (_hp:PtAt w p) (hznm:¬ (1048576:Int) < (nm.size:Int)) (hsmt:¬ leftHs 1048576 t.ts < 0) (hbig:leftB (leftHs 1048576 t.ts) p.l.length < 0) :
  Calls Tryz.prog 3 #[.agg #[.int .i64 t.la,.slice t.a t.ts.length t.cap],.string nm,.agg #[.int .i64 p.q,.int .i64 p.s,.slice p.a p.l.length p.cap,.int .i64 p.fr,.int .i64 p.b],.int .i64 now] w fun e w'=>e=.returned (.bool true)∧Below w.heap.size w w':=by
 obtain ⟨hlt,hst,hmt,hlot,hhit⟩:=tot_book (left:=1048576) (ts:=t.ts) (by omega) (by omega) hsmt
 obtain ⟨W0,hW0⟩:∃ W0,(w.alloc (.cells #[.int .i64 t.la,.slice t.a t.ts.length t.cap] 24)).alloc (.cells #[.int .i64 p.q,.int .i64 p.s,.slice p.a p.l.length p.cap,.int .i64 p.fr,.int .i64 p.b] 29)=W0:=⟨_,rfl⟩
 have B_0:Below w.heap.size w W0:=by rw [← hW0]; repeat (first | exact Below.refl _ _ | refine Below.alloc ?_ (by simp <;> omega) _)
 have zW0:w.heap.size+2≤W0.heap.size:=by rw [← hW0]; simp
 have Tt_0:Cbx W0 w.heap.size #[.int .i64 t.la,.slice t.a t.ts.length t.cap]:=by rw [← hW0]; exact (Cbx.new (w) #[.int .i64 t.la,.slice t.a t.ts.length t.cap] 24).keep (bel1 (.cells #[.int .i64 p.q,.int .i64 p.s,.slice p.a p.l.length p.cap,.int .i64 p.fr,.int .i64 p.b] 29))
 have Tp_0:Cbx W0 (w.heap.size+1) #[.int .i64 p.q,.int .i64 p.s,.slice p.a p.l.length p.cap,.int .i64 p.fr,.int .i64 p.b]:=by rw [← hW0]; have h:=Cbx.new (w.alloc (.cells #[.int .i64 t.la,.slice t.a t.ts.length t.cap] 24)) #[.int .i64 p.q,.int .i64 p.s,.slice p.a p.l.length p.cap,.int .i64 p.fr,.int .i64 p.b] 29; simpa using h
 go_enter Tryz.func3,Tryz.ntmps3
 have c0:W0.cell? ⟨w.heap.size,0,none⟩=some (.int .i64 t.la):=Tt_0.c 0
 have c1:W0.cell? ⟨w.heap.size,1,none⟩=some (.slice t.a t.ts.length t.cap):=Tt_0.c 1
 go_wp2_with fail
 refine (szBook_any t _ _ hnt htt (by omega) (by omega) (ht.below B_0)).mono ?_
 rintro e s0 ⟨rfl,hb⟩
 clear c0 c1
 clear hW0
 have Tt_1:=Tt_0.keep hb
 have Tp_1:=Tp_0.keep hb
 have B_1:=B_0.trans (hb.mono B_0.size)
 clear Tt_0 Tp_0 B_0
 clear hb
 have c0:s0.cell? ⟨w.heap.size+1,0,none⟩=some (.int .i64 p.q):=Tp_1.c 0
 have c1:s0.cell? ⟨w.heap.size+1,1,none⟩=some (.int .i64 p.s):=Tp_1.c 1
 have c2:s0.cell? ⟨w.heap.size+1,2,none⟩=some (.slice p.a p.l.length p.cap):=Tp_1.c 2
 have c3:s0.cell? ⟨w.heap.size+1,3,none⟩=some (.int .i64 p.fr):=Tp_1.c 3
 have c4:s0.cell? ⟨w.heap.size+1,4,none⟩=some (.int .i64 p.b):=Tp_1.c 4
 go_wp2_with fail
 refine (szPath_any _ _ _ _ _ _ _ _ _ hbp hlot hhit).mono ?_
 rintro e s1 ⟨rfl,hb⟩
 clear c0 c1 c2 c3 c4
 have Tt_2:=Tt_1.keep hb
 have Tp_2:=Tp_1.keep hb
 have B_2:=B_1.trans (hb.mono B_1.size)
 clear Tt_1 Tp_1 B_1
 clear hb
 go_wp2
 go_ret
 exact ⟨rfl,B_2⟩
theorem file_cells {t:Bk} {p:Pt} {w w0 w':World} (h:TwoX w w0 w' #[.int .i64 t.la,.slice t.a t.ts.length t.cap] #[.int .i64 p.q,.int .i64 p.s,.slice p.a p.l.length p.cap,.int .i64 p.fr,.int .i64 p.b]):w'.cell? ⟨w.heap.size,0,none⟩=some (.int .i64 t.la)∧w'.cell? ⟨w.heap.size,1,none⟩=some (.slice t.a t.ts.length t.cap)∧w'.cell? ⟨w.heap.size+1,0,none⟩=some (.int .i64 p.q)∧w'.cell? ⟨w.heap.size+1,1,none⟩=some (.int .i64 p.s)∧w'.cell? ⟨w.heap.size+1,2,none⟩=some (.slice p.a p.l.length p.cap)∧w'.cell? ⟨w.heap.size+1,3,none⟩=some (.int .i64 p.fr)∧w'.cell? ⟨w.heap.size+1,4,none⟩=some (.int .i64 p.b):=⟨h.one.c 0,h.one.c 1,h.two.c 0,h.two.c 1,h.two.c 2,h.two.c 3,h.two.c 4⟩
inductive fileI2 (t:Bk) (nm:ByteArray) (p:Pt) (now:Int) (rla rk rm rq rs rf rb rc:Int) (rn:ByteArray) (ks:List HKey) (rl:List Stp) (w w0:World) (k1 k3 k4 k6 k10 k11 k12 k15 k16 k17 k19:Value):(Nat→Prop)→Act→World→Prop
 | mk {L:Nat→Prop} {x0 x2 x5 x7 x8 x9 x13 x14 x18 x20 x23 x24 x25 x26 x27 x28 x29 x30 x31 x32 x33 x34 x35 x36 x37 x38 x39 x40 x41 x42 x43 x44 x45 x46 x47 x48 x49 x50 x51 x52 x53 x54 x55 x56 x57 x58 x59 x60 x61 x62 x63 x64 x65 x66 x67 x68 x69 x70 x71 x72 x73 x74 x75 x76 x77 x78 x79 x80 x81 x82 x83 x84 x85 x86 x87 x88 x89 x90 x91 x92 x93 x94 x95 x96 x97 x98 x99 x100 x101 x102 x103 x104 x105 x106 x107 x108 x109 x110 x111 x112 x113 x114 x115 x116 x117 x118 x119 x120 x121 x122 x123 x124 x125 x126 x127 x128 x129 x141 x142 x143 x144 x145 x146 x147 x148 x149 x150 x151 x152 x153 x154 x155 x156 x157 x158 x159 x160 x161 x162 x163 x164 x165 x166 x167 x168 y10 y11 y37 y38 y39 y40 y41 y42 y43 y44 y45 y46 y47:Value} {KA KB lo mid hi:Nat} {CA CB:Array Value} {V:World} (h:Rg t nm p now rla rk rm rq rs rf rb rc rn ks rl w w0 L y10 y11 y37 y38 y39 y40 y41 y42 y43 y44 y45 y46 y47 KA KB lo mid hi CA CB V):fileI2 t nm p now rla rk rm rq rs rf rb rc rn ks rl w w0 k1 k3 k4 k6 k10 k11 k12 k15 k16 k17 k19 L ⟨#[x0,k1,x2,k3,k4,x5,k6,x7,x8,x9,k10,k11,k12,x13,x14,k15,k16,k17,x18,k19,x20,y10,y11,x23,x24,x25,x26,x27,x28,x29,x30,x31,x32,x33,x34,x35,x36,x37,x38,x39,x40,x41,x42,x43,x44,x45,x46,x47,x48,x49,x50,x51,x52,x53,x54,x55,x56,x57,x58,x59,x60,x61,x62,x63,x64,x65,x66,x67,x68,x69,x70,x71,x72,x73,x74,x75,x76,x77,x78,x79,x80,x81,x82,x83,x84,x85,x86,x87,x88,x89,x90,x91,x92,x93,x94,x95,x96,x97,x98,x99,x100,x101,x102,x103,x104,x105,x106,x107,x108,x109,x110,x111,x112,x113,x114,x115,x116,x117,x118,x119,x120,x121,x122,x123,x124,x125,x126,x127,x128,x129,y37,y38,y39,y40,y41,y42,y43,y44,y45,y46,y47,x141,x142,x143,x144,x145,x146,x147,x148,x149,x150,x151,x152,x153,x154,x155,x156,x157,x158,x159,x160,x161,x162,x163,x164,x165,x166,x167,x168],[]⟩ V
inductive fileI1 (t:Bk) (nm:ByteArray) (p:Pt) (now:Int) (rla rk rm rq rs rf rb rc:Int) (rn:ByteArray) (ks:List HKey) (rl:List Stp) (w w0:World) (k1 k3 k4 k6:Value):(Nat→Prop)→Act→World→Prop
 | mk {L:Nat→Prop} {x0 x2 x5 x7 x8 x9 x12 x13 x14 x15 x16 x17 x18 x19 x20 x21 x22 x23 x24 x25 x26 x27 x28 x29 x30 x31 x32 x33 x34 x35 x36 x48 x49 x50 x51 x52 x53 x54 x55 x56 x57 x58 x59 x60 x61 x62 x63 x64 x65 x66 x67 x68 x69 x70 x71 x72 x73 x74 x75 x76 x77 x78 x79 x80 x81 x82 x83 x84 x85 x86 x87 x88 x89 x90 x91 x92 x93 x94 x95 x96 x97 x98 x99 x100 x101 x102 x103 x104 x105 x106 x107 x108 x109 x110 x111 x112 x113 x114 x115 x116 x117 x118 x119 x120 x121 x122 x123 x124 x125 x126 x127 x128 x129 x130 x131 x132 x133 x134 x135 x136 x137 x138 x139 x140 x141 x142 x143 x144 x145 x146 x147 x148 x149 x150 x151 x152 x153 x154 x155 x156 x157 x158 x159 x160 x161 x162 x163 x164 x165 x166 x167 x168 y10 y11 y37 y38 y39 y40 y41 y42 y43 y44 y45 y46 y47:Value} {KA KB lo mid hi:Nat} {CA CB:Array Value} {V:World} (h:Rg t nm p now rla rk rm rq rs rf rb rc rn ks rl w w0 L y10 y11 y37 y38 y39 y40 y41 y42 y43 y44 y45 y46 y47 KA KB lo mid hi CA CB V):fileI1 t nm p now rla rk rm rq rs rf rb rc rn ks rl w w0 k1 k3 k4 k6 L ⟨#[x0,k1,x2,k3,k4,x5,k6,x7,x8,x9,y10,y11,x12,x13,x14,x15,x16,x17,x18,x19,x20,x21,x22,x23,x24,x25,x26,x27,x28,x29,x30,x31,x32,x33,x34,x35,x36,y37,y38,y39,y40,y41,y42,y43,y44,y45,y46,y47,x48,x49,x50,x51,x52,x53,x54,x55,x56,x57,x58,x59,x60,x61,x62,x63,x64,x65,x66,x67,x68,x69,x70,x71,x72,x73,x74,x75,x76,x77,x78,x79,x80,x81,x82,x83,x84,x85,x86,x87,x88,x89,x90,x91,x92,x93,x94,x95,x96,x97,x98,x99,x100,x101,x102,x103,x104,x105,x106,x107,x108,x109,x110,x111,x112,x113,x114,x115,x116,x117,x118,x119,x120,x121,x122,x123,x124,x125,x126,x127,x128,x129,x130,x131,x132,x133,x134,x135,x136,x137,x138,x139,x140,x141,x142,x143,x144,x145,x146,x147,x148,x149,x150,x151,x152,x153,x154,x155,x156,x157,x158,x159,x160,x161,x162,x163,x164,x165,x166,x167,x168],[]⟩ V
set_option maxRecDepth 20000 in
set_option maxHeartbeats 16000000 in
theorem fileLaw_any (t:Bk) (nm:ByteArray) (p:Pt) (now:Int) (w:World) (rla rk rm rq rs rf rb rc:Int) (rn:ByteArray) (ks:List HKey) (rl:List Stp) (hlr:ks.length≤1048576) (hsr:smallK ks) (htr:(totK ks:Int)≤40000000) (hll:rl.length≤1048576) (hSp:∀ (gt hit gp hip:Nat) (W:World),Below w.heap.size w W→BkPut W gt hit t.ts→StPut W gp hip p.l→Calls Tryz.prog 7 #[.agg #[.int .i64 t.la,.slice (some ⟨gt,0,none⟩) t.ts.length t.ts.length],.string nm,.agg #[.int .i64 p.q,.int .i64 p.s,.slice (some ⟨gp,0,none⟩) p.l.length p.l.length,.int .i64 p.fr,.int .i64 p.b],.int .i64 now] W fun e w'=>∃ a0 c0 a1 c1 mid,e=.returned (.tuple #[.agg #[.int .i64 rla,.slice a0 ks.length c0],.agg #[.int .i64 rk,.string rn,.int .i64 rm,.int .i64 rq,.int .i64 rs,.slice a1 rl.length c1,.int .i64 rf,.int .i64 rb],.int .i64 rc])∧BkAns w' W.heap.size mid (.slice a0 ks.length c0) ks∧WdAns w' mid w'.heap.size a1 c1 rl∧W.heap.size≤mid∧mid≤w'.heap.size∧Below W.heap.size W w') (hIm:∀ (gt hit gp hip:Nat) (W:World),Below w.heap.size w W→BkPut W gt hit t.ts→StPut W gp hip p.l→Calls Tryz.prog 10 #[.agg #[.int .i64 t.la,.slice (some ⟨gt,0,none⟩) t.ts.length t.ts.length],.string nm,.agg #[.int .i64 p.q,.int .i64 p.s,.slice (some ⟨gp,0,none⟩) p.l.length p.l.length,.int .i64 p.fr,.int .i64 p.b],.int .i64 now] W fun e w'=>∃ a0 c0 a1 c1 mid,e=.returned (.tuple #[.agg #[.int .i64 rla,.slice a0 ks.length c0],.agg #[.int .i64 rk,.string rn,.int .i64 rm,.int .i64 rq,.int .i64 rs,.slice a1 rl.length c1,.int .i64 rf,.int .i64 rb],.int .i64 rc])∧BkAns w' W.heap.size mid (.slice a0 ks.length c0) ks∧WdAns w' mid w'.heap.size a1 c1 rl∧W.heap.size≤mid∧mid≤w'.heap.size∧Below W.heap.size W w') (hnt:t.ts.length≤maxLen) (htt:∀ u∈t.ts,u.nm.size≤maxLen∧u.p.l.length≤maxLen∧u.x.l.length≤maxLen) (hbp:p.l.length≤maxLen) (ht:BkAt w t) (hp:PtAt w p) (hznm:¬ (1048576:Int) < (nm.size:Int)) (hsmt:¬ leftHs 1048576 t.ts < 0) (hsmp:¬ leftB (leftHs 1048576 t.ts) p.l.length < 0) :
  Calls Tryz.prog 3 #[.agg #[.int .i64 t.la,.slice t.a t.ts.length t.cap],.string nm,.agg #[.int .i64 p.q,.int .i64 p.s,.slice p.a p.l.length p.cap,.int .i64 p.fr,.int .i64 p.b],.int .i64 now] w fun e w'=>e=.returned (.bool true)∧Below w.heap.size w w':=by
 obtain ⟨hlt,hst,hmt,hlot,hhit⟩:=tot_book (left:=1048576) (ts:=t.ts) (by omega) (by omega) hsmt
 obtain ⟨hlop,hhip⟩:=leftB_left ((leftHs 1048576 t.ts)) p.l.length (by omega) (by omega)
 have hlp:p.l.length≤1048576:=by unfold leftB at hsmp; split at hsmp <;> omega
 obtain ⟨W0,hW0⟩:∃ W0,(w.alloc (.cells #[.int .i64 t.la,.slice t.a t.ts.length t.cap] 24)).alloc (.cells #[.int .i64 p.q,.int .i64 p.s,.slice p.a p.l.length p.cap,.int .i64 p.fr,.int .i64 p.b] 29)=W0:=⟨_,rfl⟩
 have B_0:Below w.heap.size w W0:=by rw [← hW0]; repeat (first | exact Below.refl _ _ | refine Below.alloc ?_ (by simp <;> omega) _)
 have zW0:w.heap.size+2≤W0.heap.size:=by rw [← hW0]; simp
 have Tt_0:Cbx W0 w.heap.size #[.int .i64 t.la,.slice t.a t.ts.length t.cap]:=by rw [← hW0]; exact (Cbx.new (w) #[.int .i64 t.la,.slice t.a t.ts.length t.cap] 24).keep (bel1 (.cells #[.int .i64 p.q,.int .i64 p.s,.slice p.a p.l.length p.cap,.int .i64 p.fr,.int .i64 p.b] 29))
 have Tp_0:Cbx W0 (w.heap.size+1) #[.int .i64 p.q,.int .i64 p.s,.slice p.a p.l.length p.cap,.int .i64 p.fr,.int .i64 p.b]:=by rw [← hW0]; have h:=Cbx.new (w.alloc (.cells #[.int .i64 t.la,.slice t.a t.ts.length t.cap] 24)) #[.int .i64 p.q,.int .i64 p.s,.slice p.a p.l.length p.cap,.int .i64 p.fr,.int .i64 p.b] 29; simpa using h
 go_enter Tryz.func3,Tryz.ntmps3
 have c0:W0.cell? ⟨w.heap.size,0,none⟩=some (.int .i64 t.la):=Tt_0.c 0
 have c1:W0.cell? ⟨w.heap.size,1,none⟩=some (.slice t.a t.ts.length t.cap):=Tt_0.c 1
 go_wp2_with fail
 refine (szBook_any t _ _ hnt htt (by omega) (by omega) (ht.below B_0)).mono ?_
 rintro e s0 ⟨rfl,hb⟩
 clear c0 c1
 clear hW0
 have Tt_1:=Tt_0.keep hb
 have Tp_1:=Tp_0.keep hb
 have B_1:=B_0.trans (hb.mono B_0.size)
 clear Tt_0 Tp_0 B_0
 clear hb
 have c0:s0.cell? ⟨w.heap.size+1,0,none⟩=some (.int .i64 p.q):=Tp_1.c 0
 have c1:s0.cell? ⟨w.heap.size+1,1,none⟩=some (.int .i64 p.s):=Tp_1.c 1
 have c2:s0.cell? ⟨w.heap.size+1,2,none⟩=some (.slice p.a p.l.length p.cap):=Tp_1.c 2
 have c3:s0.cell? ⟨w.heap.size+1,3,none⟩=some (.int .i64 p.fr):=Tp_1.c 3
 have c4:s0.cell? ⟨w.heap.size+1,4,none⟩=some (.int .i64 p.b):=Tp_1.c 4
 go_wp2_with fail
 refine (szPath_any _ _ _ _ _ _ _ _ _ hbp hlot hhit).mono ?_
 rintro e s1 ⟨rfl,hb⟩
 clear c0 c1 c2 c3 c4
 have Tt_2:=Tt_1.keep hb
 have Tp_2:=Tp_1.keep hb
 have B_2:=B_1.trans (hb.mono B_1.size)
 clear Tt_1 Tp_1 B_1
 clear hb
 generalize leftB (leftHs 1048576 t.ts) p.l.length=leftp at hsmp hlop hhip ⊢
 have M2:TwoX w s1 s1.drew #[.int .i64 t.la,.slice t.a t.ts.length t.cap] #[.int .i64 p.q,.int .i64 p.s,.slice p.a p.l.length p.cap,.int .i64 p.fr,.int .i64 p.b]:=TwoX.keep (w0:=s1) ⟨B_2,Below.refl _ _,Tt_2,Tp_2⟩ ((Below.refl _ _).drew)
 have c0:s1.cell? ⟨w.heap.size,0,none⟩=some (.int .i64 t.la):=Tt_2.c 0
 have c1:s1.cell? ⟨w.heap.size,1,none⟩=some (.slice t.a t.ts.length t.cap):=Tt_2.c 1
 have d0:s1.cell? ⟨w.heap.size+1,0,none⟩=some (.int .i64 p.q):=Tp_2.c 0
 have d1:s1.cell? ⟨w.heap.size+1,1,none⟩=some (.int .i64 p.s):=Tp_2.c 1
 have d2:s1.cell? ⟨w.heap.size+1,2,none⟩=some (.slice p.a p.l.length p.cap):=Tp_2.c 2
 have d3:s1.cell? ⟨w.heap.size+1,3,none⟩=some (.int .i64 p.fr):=Tp_2.c 3
 have d4:s1.cell? ⟨w.heap.size+1,4,none⟩=some (.int .i64 p.b):=Tp_2.c 4
 go_wp2
 rename_i K1 hK1
 have REST1:∀ {x0 x2 x5 x7 x8 x9 x13 x14 x15 x16 x17 x18 x19 x20 x21 x22 x23 x24 x25 x26 x27 x28 x29 x30 x31 x32 x33 x34 x35 x36 x37 x38 x39 x40 x41 x42 x43 x44 x45 x46 x47 x48 x49 x50 x51 x52 x53 x54 x55 x56 x57 x58 x59 x60 x61 x62 x63 x64 x65 x66 x67 x68 x69 x70 x71 x72 x73 x74 x75 x76 x77 x78 x79 x80 x81 x82 x83 x84 x85 x86 x87 x88 x89 x90 x91 x92 x93 x94 x95 x96 x97 x98 x99 x100 x101 x102 x103 x104 x105 x106 x107 x108 x109 x110 x111 x112 x113 x114 x115 x116 x117 x118 x119 x120 x121 x122 x123 x124 x125 x126 x127 x128 x129 x130 x131 x132 x133 x134 x135 x136 x137 x138 x139 x140 x141 x142 x143 x144 x145 x146 x147 x148 x149 x150 x151 x152 x153 x154 x155 x156 x157 x158 x159 x160 x161 x162 x163 x164 x165 x166 x167 x168:Value} {Ks Ls los mids his cs0 cs1:Nat} {as0 as1:Option Addr} {Vs:World},TwoQ w s1 Vs #[.int .i64 t.la,.slice t.a t.ts.length t.cap] #[.int .i64 p.q,.int .i64 p.s,.slice p.a p.l.length p.cap,.int .i64 p.fr,.int .i64 p.b] Ks #[.int .i64 rla,.slice as0 ks.length cs0] Ls #[.int .i64 rk,.string rn,.int .i64 rm,.int .i64 rq,.int .i64 rs,.slice as1 rl.length cs1,.int .i64 rf,.int .i64 rb]→BkAns Vs los mids (.slice as0 ks.length cs0) ks→WdAns Vs mids his as1 cs1 rl→w.heap.size+1 < los→los≤mids→mids≤his→his≤Vs.heap.size→(Ks < los∨his≤Ks)→(Ls < los∨his≤Ls)→K1 ⟨#[x0,.string nm,x2,.int .i64 now,.pointer (some ⟨w.heap.size,0,none⟩),x5,.pointer (some ⟨w.heap.size+1,0,none⟩),x7,x8,x9,.pointer (some ⟨Ks,0,none⟩),.pointer (some ⟨Ls,0,none⟩),.int .i64 rc,x13,x14,x15,x16,x17,x18,x19,x20,x21,x22,x23,x24,x25,x26,x27,x28,x29,x30,x31,x32,x33,x34,x35,x36,x37,x38,x39,x40,x41,x42,x43,x44,x45,x46,x47,x48,x49,x50,x51,x52,x53,x54,x55,x56,x57,x58,x59,x60,x61,x62,x63,x64,x65,x66,x67,x68,x69,x70,x71,x72,x73,x74,x75,x76,x77,x78,x79,x80,x81,x82,x83,x84,x85,x86,x87,x88,x89,x90,x91,x92,x93,x94,x95,x96,x97,x98,x99,x100,x101,x102,x103,x104,x105,x106,x107,x108,x109,x110,x111,x112,x113,x114,x115,x116,x117,x118,x119,x120,x121,x122,x123,x124,x125,x126,x127,x128,x129,x130,x131,x132,x133,x134,x135,x136,x137,x138,x139,x140,x141,x142,x143,x144,x145,x146,x147,x148,x149,x150,x151,x152,x153,x154,x155,x156,x157,x158,x159,x160,x161,x162,x163,x164,x165,x166,x167,x168],[]⟩ Vs:=by
  intro x0 x2 x5 x7 x8 x9 x13 x14 x15 x16 x17 x18 x19 x20 x21 x22 x23 x24 x25 x26 x27 x28 x29 x30 x31 x32 x33 x34 x35 x36 x37 x38 x39 x40 x41 x42 x43 x44 x45 x46 x47 x48 x49 x50 x51 x52 x53 x54 x55 x56 x57 x58 x59 x60 x61 x62 x63 x64 x65 x66 x67 x68 x69 x70 x71 x72 x73 x74 x75 x76 x77 x78 x79 x80 x81 x82 x83 x84 x85 x86 x87 x88 x89 x90 x91 x92 x93 x94 x95 x96 x97 x98 x99 x100 x101 x102 x103 x104 x105 x106 x107 x108 x109 x110 x111 x112 x113 x114 x115 x116 x117 x118 x119 x120 x121 x122 x123 x124 x125 x126 x127 x128 x129 x130 x131 x132 x133 x134 x135 x136 x137 x138 x139 x140 x141 x142 x143 x144 x145 x146 x147 x148 x149 x150 x151 x152 x153 x154 x155 x156 x157 x158 x159 x160 x161 x162 x163 x164 x165 x166 x167 x168 Ks Ls los mids his cs0 cs1 as0 as1 Vs HB RRs0 RRs1 zos zms zns zhs zkas zkbs
  clear c0 c1 d0 d1 d2 d3 d4 M2
  refine hK1 _ _ ?_
  clear Tt_2 Tp_2 B_2
  have Tt_1:=HB.both.one
  have Tp_1:=HB.both.two
  have B_1:=HB.both.old
  have Gs0:=HB.boxK
  have Gs1:=HB.boxL
  have zkl:=HB.boxK.lt
  have zkm:=HB.boxL.lt
  have zkn:=HB.k
  have zko:=HB.l
  have ztt:=Tt_1.lt
  have ztp:=Tp_1.lt
  clear HB
  have c0:Vs.cell? ⟨w.heap.size,0,none⟩=some (.int .i64 t.la):=Tt_1.c 0
  have c1:Vs.cell? ⟨w.heap.size,1,none⟩=some (.slice t.a t.ts.length t.cap):=Tt_1.c 1
  go_wp2_with fail
  refine (toBook_put t _ hlt hst (ht.below B_1)).mono ?_
  rintro e xt ⟨gxt,rfl,hgxt,hpc,hb⟩
  clear c0 c1
  have Tt_103:=Tt_1.keep hb
  have Tp_103:=Tp_1.keep hb
  have Rs0_103:=RRs0.below hb
  have Gs0_103:=Gs0.keep hb
  have Rs1_103:=RRs1.below hb
  have Gs1_103:=Gs1.keep hb
  have B_103:=B_1.trans (hb.mono B_1.size)
  clear Tt_1 Tp_1 RRs0 Gs0 RRs1 Gs1 B_1
  have zxt:=hb.size
  have hpxt:=hpc
  have zzxt:=hpxt.lt
  clear hpc hb
  have K:=bel1 (w:=xt) (.cells #[.int .i64 t.la,.slice (some ⟨gxt,0,none⟩) t.ts.length t.ts.length] 34)
  have Tt_104:=Tt_103.keep K
  have Tp_104:=Tp_103.keep K
  have Rs0_104:=Rs0_103.below K
  have Gs0_104:=Gs0_103.keep K
  have Rs1_104:=Rs1_103.below K
  have Gs1_104:=Gs1_103.keep K
  have Cxt_104:=hpxt.below K
  have B_104:=B_103.trans (K.mono B_103.size)
  clear Tt_103 Tp_103 Rs0_103 Gs0_103 Rs1_103 Gs1_103 hpxt B_103
  have Xt:=Cbx.new xt #[.int .i64 t.la,.slice (some ⟨gxt,0,none⟩) t.ts.length t.ts.length] 34
  clear K
  have c0:(xt.alloc (.cells #[.int .i64 t.la,.slice (some ⟨gxt,0,none⟩) t.ts.length t.ts.length] 34)).cell? ⟨w.heap.size+1,0,none⟩=some (.int .i64 p.q):=Tp_104.c 0
  have c1:(xt.alloc (.cells #[.int .i64 t.la,.slice (some ⟨gxt,0,none⟩) t.ts.length t.ts.length] 34)).cell? ⟨w.heap.size+1,1,none⟩=some (.int .i64 p.s):=Tp_104.c 1
  have c2:(xt.alloc (.cells #[.int .i64 t.la,.slice (some ⟨gxt,0,none⟩) t.ts.length t.ts.length] 34)).cell? ⟨w.heap.size+1,2,none⟩=some (.slice p.a p.l.length p.cap):=Tp_104.c 2
  have c3:(xt.alloc (.cells #[.int .i64 t.la,.slice (some ⟨gxt,0,none⟩) t.ts.length t.ts.length] 34)).cell? ⟨w.heap.size+1,3,none⟩=some (.int .i64 p.fr):=Tp_104.c 3
  have c4:(xt.alloc (.cells #[.int .i64 t.la,.slice (some ⟨gxt,0,none⟩) t.ts.length t.ts.length] 34)).cell? ⟨w.heap.size+1,4,none⟩=some (.int .i64 p.b):=Tp_104.c 4
  go_wp2_with fail
  refine (toPath_put p _ hlp (hp.below B_104 hp.lt)).mono ?_
  rintro e xp ⟨gxp,rfl,hgxp,hpc,hb⟩
  clear c0 c1 c2 c3 c4
  have Tt_105:=Tt_104.keep hb
  have Tp_105:=Tp_104.keep hb
  have Rs0_105:=Rs0_104.below hb
  have Gs0_105:=Gs0_104.keep hb
  have Rs1_105:=Rs1_104.below hb
  have Gs1_105:=Gs1_104.keep hb
  have Cxt_105:=Cxt_104.below hb
  have Xt_105:=Xt.keep hb
  have B_105:=B_104.trans (hb.mono B_104.size)
  clear Tt_104 Tp_104 Rs0_104 Gs0_104 Rs1_104 Gs1_104 Cxt_104 Xt B_104
  have zxp:=hb.size
  have hpxp:=hpc
  have zzxp:=(⟨hpxp.lt,hpxp.le⟩:_∧_)
  clear hpc hb
  have K:=bel1 (w:=xp) (.cells #[.int .i64 p.q,.int .i64 p.s,.slice (some ⟨gxp,0,none⟩) p.l.length p.l.length,.int .i64 p.fr,.int .i64 p.b] 38)
  have Tt_106:=Tt_105.keep K
  have Tp_106:=Tp_105.keep K
  have Rs0_106:=Rs0_105.below K
  have Gs0_106:=Gs0_105.keep K
  have Rs1_106:=Rs1_105.below K
  have Gs1_106:=Gs1_105.keep K
  have Cxt_106:=Cxt_105.below K
  have Xt_106:=Xt_105.keep K
  have Cxp_106:=hpxp.below K
  have B_106:=B_105.trans (K.mono B_105.size)
  clear Tt_105 Tp_105 Rs0_105 Gs0_105 Rs1_105 Gs1_105 Cxt_105 Xt_105 hpxp B_105
  have Xp:=Cbx.new xp #[.int .i64 p.q,.int .i64 p.s,.slice (some ⟨gxp,0,none⟩) p.l.length p.l.length,.int .i64 p.fr,.int .i64 p.b] 38
  clear K
  try simp only [World.size_alloc] at hgxt hgxp zxt zxp
  have xt0:(xp.alloc (.cells #[.int .i64 p.q,.int .i64 p.s,.slice (some ⟨gxp,0,none⟩) p.l.length p.l.length,.int .i64 p.fr,.int .i64 p.b] 38)).cell? ⟨xt.heap.size,0,none⟩=some (.int .i64 t.la):=Xt_106.c 0
  have xt1:(xp.alloc (.cells #[.int .i64 p.q,.int .i64 p.s,.slice (some ⟨gxp,0,none⟩) p.l.length p.l.length,.int .i64 p.fr,.int .i64 p.b] 38)).cell? ⟨xt.heap.size,1,none⟩=some (.slice (some ⟨gxt,0,none⟩) t.ts.length t.ts.length):=Xt_106.c 1
  have xp0:(xp.alloc (.cells #[.int .i64 p.q,.int .i64 p.s,.slice (some ⟨gxp,0,none⟩) p.l.length p.l.length,.int .i64 p.fr,.int .i64 p.b] 38)).cell? ⟨xp.heap.size,0,none⟩=some (.int .i64 p.q):=Xp.c 0
  have xp1:(xp.alloc (.cells #[.int .i64 p.q,.int .i64 p.s,.slice (some ⟨gxp,0,none⟩) p.l.length p.l.length,.int .i64 p.fr,.int .i64 p.b] 38)).cell? ⟨xp.heap.size,1,none⟩=some (.int .i64 p.s):=Xp.c 1
  have xp2:(xp.alloc (.cells #[.int .i64 p.q,.int .i64 p.s,.slice (some ⟨gxp,0,none⟩) p.l.length p.l.length,.int .i64 p.fr,.int .i64 p.b] 38)).cell? ⟨xp.heap.size,2,none⟩=some (.slice (some ⟨gxp,0,none⟩) p.l.length p.l.length):=Xp.c 2
  have xp3:(xp.alloc (.cells #[.int .i64 p.q,.int .i64 p.s,.slice (some ⟨gxp,0,none⟩) p.l.length p.l.length,.int .i64 p.fr,.int .i64 p.b] 38)).cell? ⟨xp.heap.size,3,none⟩=some (.int .i64 p.fr):=Xp.c 3
  have xp4:(xp.alloc (.cells #[.int .i64 p.q,.int .i64 p.s,.slice (some ⟨gxp,0,none⟩) p.l.length p.l.length,.int .i64 p.fr,.int .i64 p.b] 38)).cell? ⟨xp.heap.size,4,none⟩=some (.int .i64 p.b):=Xp.c 4
  go_wp2_with fail
  refine (hIm _ _ _ _ _ B_106 Cxt_106 Cxp_106).mono ?_
  rintro e u7 ⟨ai0,ci0,ai1,ci1,midi,rfl,Ri0,Ri1,zloi,zmidi,hb⟩
  have Tt_107:=Tt_106.keep hb
  have Tp_107:=Tp_106.keep hb
  have Rs0_107:=Rs0_106.below hb
  have Gs0_107:=Gs0_106.keep hb
  have Rs1_107:=Rs1_106.below hb
  have Gs1_107:=Gs1_106.keep hb
  have Cxt_107:=Cxt_106.below hb
  have Xt_107:=Xt_106.keep hb
  have Cxp_107:=Cxp_106.below hb
  have Xp_107:=Xp.keep hb
  have B_107:=B_106.trans (hb.mono B_106.size)
  clear Tt_106 Tp_106 Rs0_106 Gs0_106 Rs1_106 Gs1_106 Cxt_106 Xt_106 Cxp_106 Xp B_106
  have zsi:=hb.size
  clear hb
  clear xt0 xt1 xp0 xp1 xp2 xp3 xp4
  simp only [World.size_alloc] at zsi zloi Ri0
  have RRi0:=Ri0
  have RRi1:=Ri1
  clear Ri0 Ri1
  have K:=bel1 (w:=u7) (.cells #[.int .i64 rla,.slice ai0 ks.length ci0] 34)
  have Tt_108:=Tt_107.keep K
  have Tp_108:=Tp_107.keep K
  have Rs0_108:=Rs0_107.below K
  have Gs0_108:=Gs0_107.keep K
  have Rs1_108:=Rs1_107.below K
  have Gs1_108:=Gs1_107.keep K
  have Cxt_108:=Cxt_107.below K
  have Xt_108:=Xt_107.keep K
  have Cxp_108:=Cxp_107.below K
  have Xp_108:=Xp_107.keep K
  have Ri0_108:=RRi0.below K
  have Ri1_108:=RRi1.below K
  have B_108:=B_107.trans (K.mono B_107.size)
  clear Tt_107 Tp_107 Rs0_107 Gs0_107 Rs1_107 Gs1_107 Cxt_107 Xt_107 Cxp_107 Xp_107 RRi0 RRi1 B_107
  have Gi0:=Cbx.new (u7) #[.int .i64 rla,.slice ai0 ks.length ci0] 34
  clear K
  have K:=bel1 (w:=(u7.alloc (.cells #[.int .i64 rla,.slice ai0 ks.length ci0] 34))) (.cells #[.int .i64 rk,.string rn,.int .i64 rm,.int .i64 rq,.int .i64 rs,.slice ai1 rl.length ci1,.int .i64 rf,.int .i64 rb] 40)
  have Tt_109:=Tt_108.keep K
  have Tp_109:=Tp_108.keep K
  have Rs0_109:=Rs0_108.below K
  have Gs0_109:=Gs0_108.keep K
  have Rs1_109:=Rs1_108.below K
  have Gs1_109:=Gs1_108.keep K
  have Cxt_109:=Cxt_108.below K
  have Xt_109:=Xt_108.keep K
  have Cxp_109:=Cxp_108.below K
  have Xp_109:=Xp_108.keep K
  have Ri0_109:=Ri0_108.below K
  have Ri1_109:=Ri1_108.below K
  have Gi0_109:=Gi0.keep K
  have B_109:=B_108.trans (K.mono B_108.size)
  clear Tt_108 Tp_108 Rs0_108 Gs0_108 Rs1_108 Gs1_108 Cxt_108 Xt_108 Cxp_108 Xp_108 Ri0_108 Ri1_108 Gi0 B_108
  have Gi1:=Cbx.new ((u7.alloc (.cells #[.int .i64 rla,.slice ai0 ks.length ci0] 34))) #[.int .i64 rk,.string rn,.int .i64 rm,.int .i64 rq,.int .i64 rs,.slice ai1 rl.length ci1,.int .i64 rf,.int .i64 rb] 40
  clear K
  simp only [World.size_alloc] at Gi1
  have nc:(rc != rc)=false:=by simp
  have d0:((u7.alloc (.cells #[.int .i64 rla,.slice ai0 ks.length ci0] 34)).alloc (.cells #[.int .i64 rk,.string rn,.int .i64 rm,.int .i64 rq,.int .i64 rs,.slice ai1 rl.length ci1,.int .i64 rf,.int .i64 rb] 40)).cell? ⟨u7.heap.size,0,none⟩=some (.int .i64 rla):=Gi0_109.c 0
  have d1:((u7.alloc (.cells #[.int .i64 rla,.slice ai0 ks.length ci0] 34)).alloc (.cells #[.int .i64 rk,.string rn,.int .i64 rm,.int .i64 rq,.int .i64 rs,.slice ai1 rl.length ci1,.int .i64 rf,.int .i64 rb] 40)).cell? ⟨u7.heap.size,1,none⟩=some (.slice ai0 ks.length ci0):=Gi0_109.c 1
  have e0:((u7.alloc (.cells #[.int .i64 rla,.slice ai0 ks.length ci0] 34)).alloc (.cells #[.int .i64 rk,.string rn,.int .i64 rm,.int .i64 rq,.int .i64 rs,.slice ai1 rl.length ci1,.int .i64 rf,.int .i64 rb] 40)).cell? ⟨Ks,0,none⟩=some (.int .i64 rla):=Gs0_109.c 0
  have e1:((u7.alloc (.cells #[.int .i64 rla,.slice ai0 ks.length ci0] 34)).alloc (.cells #[.int .i64 rk,.string rn,.int .i64 rm,.int .i64 rq,.int .i64 rs,.slice ai1 rl.length ci1,.int .i64 rf,.int .i64 rb] 40)).cell? ⟨Ks,1,none⟩=some (.slice as0 ks.length cs0):=Gs0_109.c 1
  go_wp2_with fail
  refine (Ri0_109.eq rla Rs0_109 hlr hsr).mono ?_
  rintro e wq0 ⟨rfl,hb⟩
  clear d0 d1 e0 e1
  have Tt_110:=Tt_109.keep hb
  have Tp_110:=Tp_109.keep hb
  have Rs0_110:=Rs0_109.below hb
  have Gs0_110:=Gs0_109.keep hb
  have Rs1_110:=Rs1_109.below hb
  have Gs1_110:=Gs1_109.keep hb
  have Cxt_110:=Cxt_109.below hb
  have Xt_110:=Xt_109.keep hb
  have Cxp_110:=Cxp_109.below hb
  have Xp_110:=Xp_109.keep hb
  have Ri0_110:=Ri0_109.below hb
  have Ri1_110:=Ri1_109.below hb
  have Gi0_110:=Gi0_109.keep hb
  have Gi1_110:=Gi1.keep hb
  have B_110:=B_109.trans (hb.mono B_109.size)
  clear Tt_109 Tp_109 Rs0_109 Gs0_109 Rs1_109 Gs1_109 Cxt_109 Xt_109 Cxp_109 Xp_109 Ri0_109 Ri1_109 Gi0_109 Gi1 B_109
  clear hb
  have d0:wq0.cell? ⟨u7.heap.size+1,0,none⟩=some (.int .i64 rk):=Gi1_110.c 0
  have d1:wq0.cell? ⟨u7.heap.size+1,1,none⟩=some (.string rn):=Gi1_110.c 1
  have d2:wq0.cell? ⟨u7.heap.size+1,2,none⟩=some (.int .i64 rm):=Gi1_110.c 2
  have d3:wq0.cell? ⟨u7.heap.size+1,3,none⟩=some (.int .i64 rq):=Gi1_110.c 3
  have d4:wq0.cell? ⟨u7.heap.size+1,4,none⟩=some (.int .i64 rs):=Gi1_110.c 4
  have d5:wq0.cell? ⟨u7.heap.size+1,5,none⟩=some (.slice ai1 rl.length ci1):=Gi1_110.c 5
  have d6:wq0.cell? ⟨u7.heap.size+1,6,none⟩=some (.int .i64 rf):=Gi1_110.c 6
  have d7:wq0.cell? ⟨u7.heap.size+1,7,none⟩=some (.int .i64 rb):=Gi1_110.c 7
  have e0:wq0.cell? ⟨Ls,0,none⟩=some (.int .i64 rk):=Gs1_110.c 0
  have e1:wq0.cell? ⟨Ls,1,none⟩=some (.string rn):=Gs1_110.c 1
  have e2:wq0.cell? ⟨Ls,2,none⟩=some (.int .i64 rm):=Gs1_110.c 2
  have e3:wq0.cell? ⟨Ls,3,none⟩=some (.int .i64 rq):=Gs1_110.c 3
  have e4:wq0.cell? ⟨Ls,4,none⟩=some (.int .i64 rs):=Gs1_110.c 4
  have e5:wq0.cell? ⟨Ls,5,none⟩=some (.slice as1 rl.length cs1):=Gs1_110.c 5
  have e6:wq0.cell? ⟨Ls,6,none⟩=some (.int .i64 rf):=Gs1_110.c 6
  have e7:wq0.cell? ⟨Ls,7,none⟩=some (.int .i64 rb):=Gs1_110.c 7
  go_wp2_with fail
  refine (Ri1_110.eq rk rm rq rs rf rb rn Rs1_110 hll).mono ?_
  rintro e wq1 ⟨rfl,hb⟩
  clear d0 d1 d2 d3 d4 d5 d6 d7 e0 e1 e2 e3 e4 e5 e6 e7
  have Tt_111:=Tt_110.keep hb
  have Tp_111:=Tp_110.keep hb
  have Rs0_111:=Rs0_110.below hb
  have Gs0_111:=Gs0_110.keep hb
  have Rs1_111:=Rs1_110.below hb
  have Gs1_111:=Gs1_110.keep hb
  have Cxt_111:=Cxt_110.below hb
  have Xt_111:=Xt_110.keep hb
  have Cxp_111:=Cxp_110.below hb
  have Xp_111:=Xp_110.keep hb
  have Ri0_111:=Ri0_110.below hb
  have Ri1_111:=Ri1_110.below hb
  have Gi0_111:=Gi0_110.keep hb
  have Gi1_111:=Gi1_110.keep hb
  have B_111:=B_110.trans (hb.mono B_110.size)
  clear Tt_110 Tp_110 Rs0_110 Gs0_110 Rs1_110 Gs1_110 Cxt_110 Xt_110 Cxp_110 Xp_110 Ri0_110 Ri1_110 Gi0_110 Gi1_110 B_110
  clear hb
  have c0:wq1.cell? ⟨w.heap.size,0,none⟩=some (.int .i64 t.la):=Tt_111.c 0
  have c1:wq1.cell? ⟨w.heap.size,1,none⟩=some (.slice t.a t.ts.length t.cap):=Tt_111.c 1
  have x0:wq1.cell? ⟨xt.heap.size,0,none⟩=some (.int .i64 t.la):=Xt_111.c 0
  have x1:wq1.cell? ⟨xt.heap.size,1,none⟩=some (.slice (some ⟨gxt,0,none⟩) t.ts.length t.ts.length):=Xt_111.c 1
  have zc:=Tt_111.lt
  have zx:=Xt_111.lt
  have hd:=(ht.below B_111.drew)
  have hy:=Cxt_111.below (W':=wq1.drew) ((Below.refl _ _).drew)
  go_wp2
  go_region_held3 (fun w'=>w'.cell? ⟨w.heap.size,0,none⟩=some (.int .i64 t.la)∧w'.cell? ⟨w.heap.size,1,none⟩=some (.slice t.a t.ts.length t.cap)∧w'.cell? ⟨xt.heap.size,0,none⟩=some (.int .i64 t.la)∧w'.cell? ⟨xt.heap.size,1,none⟩=some (.slice (some ⟨gxt,0,none⟩) t.ts.length t.ts.length))
   (simp [go_sem, *])
   (first
    | (go_at_call 8; refine (toBook_put t _ hlt hst hd).mono ?_; rintro e y1t ⟨gy,rfl,hgy,hq,hb1⟩; have n2:∀ j,y1t.cell? ⟨w.heap.size,j,none⟩=wq1.cell? ⟨w.heap.size,j,none⟩:=(fun j=>hb1.cell (p:=⟨w.heap.size,j,none⟩) zc); have n3:∀ j,y1t.cell? ⟨xt.heap.size,j,none⟩=wq1.cell? ⟨xt.heap.size,j,none⟩:=(fun j=>hb1.cell (p:=⟨xt.heap.size,j,none⟩) zx))
    | (go_at_call 11; refine ((hy.below hb1).eq t.la hq hlt hst).mono ?_; rintro e y2t ⟨rfl,hb2⟩; have n4:∀ j,y2t.cell? ⟨w.heap.size,j,none⟩=y1t.cell? ⟨w.heap.size,j,none⟩:=(fun j=>hb2.cell (p:=⟨w.heap.size,j,none⟩) (Nat.lt_of_lt_of_le zc hb1.size)); have n5:∀ j,y2t.cell? ⟨xt.heap.size,j,none⟩=y1t.cell? ⟨xt.heap.size,j,none⟩:=(fun j=>hb2.cell (p:=⟨xt.heap.size,j,none⟩) (Nat.lt_of_lt_of_le zx hb1.size)))
    | fail)
  have K:Below wq1.heap.size wq1 y2t:=((Below.refl wq1.heap.size wq1).drew).trans (hb1.trans (hb2.mono hb1.size))
  clear c0 c1 x0 x1 hd hy n2 n3 n4 n5 hq hgy zc zx hb1 hb2
  have Tt_112:=Tt_111.keep K
  have Tp_112:=Tp_111.keep K
  have Rs0_112:=Rs0_111.below K
  have Gs0_112:=Gs0_111.keep K
  have Rs1_112:=Rs1_111.below K
  have Gs1_112:=Gs1_111.keep K
  have Cxt_112:=Cxt_111.below K
  have Xt_112:=Xt_111.keep K
  have Cxp_112:=Cxp_111.below K
  have Xp_112:=Xp_111.keep K
  have Ri0_112:=Ri0_111.below K
  have Ri1_112:=Ri1_111.below K
  have Gi0_112:=Gi0_111.keep K
  have Gi1_112:=Gi1_111.keep K
  have B_112:=B_111.trans (K.mono B_111.size)
  clear Tt_111 Tp_111 Rs0_111 Gs0_111 Rs1_111 Gs1_111 Cxt_111 Xt_111 Cxp_111 Xp_111 Ri0_111 Ri1_111 Gi0_111 Gi1_111 B_111
  clear K
  have c0:y2t.cell? ⟨w.heap.size+1,0,none⟩=some (.int .i64 p.q):=Tp_112.c 0
  have c1:y2t.cell? ⟨w.heap.size+1,1,none⟩=some (.int .i64 p.s):=Tp_112.c 1
  have c2:y2t.cell? ⟨w.heap.size+1,2,none⟩=some (.slice p.a p.l.length p.cap):=Tp_112.c 2
  have c3:y2t.cell? ⟨w.heap.size+1,3,none⟩=some (.int .i64 p.fr):=Tp_112.c 3
  have c4:y2t.cell? ⟨w.heap.size+1,4,none⟩=some (.int .i64 p.b):=Tp_112.c 4
  have x0:y2t.cell? ⟨xp.heap.size,0,none⟩=some (.int .i64 p.q):=Xp_112.c 0
  have x1:y2t.cell? ⟨xp.heap.size,1,none⟩=some (.int .i64 p.s):=Xp_112.c 1
  have x2:y2t.cell? ⟨xp.heap.size,2,none⟩=some (.slice (some ⟨gxp,0,none⟩) p.l.length p.l.length):=Xp_112.c 2
  have x3:y2t.cell? ⟨xp.heap.size,3,none⟩=some (.int .i64 p.fr):=Xp_112.c 3
  have x4:y2t.cell? ⟨xp.heap.size,4,none⟩=some (.int .i64 p.b):=Xp_112.c 4
  have zc:=Tp_112.lt
  have zx:=Xp_112.lt
  have hd:=(hp.below B_112.drew hp.lt)
  have hy:=Cxp_112.below (W':=y2t.drew) ((Below.refl _ _).drew)
  go_wp2
  go_region_held3 (fun w'=>w'.cell? ⟨w.heap.size+1,0,none⟩=some (.int .i64 p.q)∧w'.cell? ⟨w.heap.size+1,1,none⟩=some (.int .i64 p.s)∧w'.cell? ⟨w.heap.size+1,2,none⟩=some (.slice p.a p.l.length p.cap)∧w'.cell? ⟨w.heap.size+1,3,none⟩=some (.int .i64 p.fr)∧w'.cell? ⟨w.heap.size+1,4,none⟩=some (.int .i64 p.b)∧w'.cell? ⟨xp.heap.size,0,none⟩=some (.int .i64 p.q)∧w'.cell? ⟨xp.heap.size,1,none⟩=some (.int .i64 p.s)∧w'.cell? ⟨xp.heap.size,2,none⟩=some (.slice (some ⟨gxp,0,none⟩) p.l.length p.l.length)∧w'.cell? ⟨xp.heap.size,3,none⟩=some (.int .i64 p.fr)∧w'.cell? ⟨xp.heap.size,4,none⟩=some (.int .i64 p.b))
   (simp [go_sem, *])
   (first
    | (go_at_call 9; refine (toPath_put p _ hlp hd).mono ?_; rintro e y1p ⟨gy,rfl,hgy,hq,hb1⟩; have n2:∀ j,y1p.cell? ⟨w.heap.size+1,j,none⟩=y2t.cell? ⟨w.heap.size+1,j,none⟩:=(fun j=>hb1.cell (p:=⟨w.heap.size+1,j,none⟩) zc); have n3:∀ j,y1p.cell? ⟨xp.heap.size,j,none⟩=y2t.cell? ⟨xp.heap.size,j,none⟩:=(fun j=>hb1.cell (p:=⟨xp.heap.size,j,none⟩) zx))
    | (go_at_call 13; refine (eqPath_put p (hy.below hb1) hq hlp).mono ?_; rintro e y2p ⟨rfl,hb2⟩; have n4:∀ j,y2p.cell? ⟨w.heap.size+1,j,none⟩=y1p.cell? ⟨w.heap.size+1,j,none⟩:=(fun j=>hb2.cell (p:=⟨w.heap.size+1,j,none⟩) (Nat.lt_of_lt_of_le zc hb1.size)); have n5:∀ j,y2p.cell? ⟨xp.heap.size,j,none⟩=y1p.cell? ⟨xp.heap.size,j,none⟩:=(fun j=>hb2.cell (p:=⟨xp.heap.size,j,none⟩) (Nat.lt_of_lt_of_le zx hb1.size)))
    | fail)
  have K:Below y2t.heap.size y2t y2p:=((Below.refl y2t.heap.size y2t).drew).trans (hb1.trans (hb2.mono hb1.size))
  clear c0 c1 c2 c3 c4 x0 x1 x2 x3 x4 hd hy n2 n3 n4 n5 hq hgy zc zx hb1 hb2
  have Tt_113:=Tt_112.keep K
  have Tp_113:=Tp_112.keep K
  have Rs0_113:=Rs0_112.below K
  have Gs0_113:=Gs0_112.keep K
  have Rs1_113:=Rs1_112.below K
  have Gs1_113:=Gs1_112.keep K
  have Cxt_113:=Cxt_112.below K
  have Xt_113:=Xt_112.keep K
  have Cxp_113:=Cxp_112.below K
  have Xp_113:=Xp_112.keep K
  have Ri0_113:=Ri0_112.below K
  have Ri1_113:=Ri1_112.below K
  have Gi0_113:=Gi0_112.keep K
  have Gi1_113:=Gi1_112.keep K
  have B_113:=B_112.trans (K.mono B_112.size)
  clear Tt_112 Tp_112 Rs0_112 Gs0_112 Rs1_112 Gs1_112 Cxt_112 Xt_112 Cxp_112 Xp_112 Ri0_112 Ri1_112 Gi0_112 Gi1_112 B_112
  clear K
  have x0:y2p.cell? ⟨xt.heap.size,0,none⟩=some (.int .i64 t.la):=Xt_113.c 0
  have x1:y2p.cell? ⟨xt.heap.size,1,none⟩=some (.slice (some ⟨gxt,0,none⟩) t.ts.length t.ts.length):=Xt_113.c 1
  go_wp2_with fail
  refine (Cxt_113.mark t.la 1 hlt hst ⟨by omega,by omega⟩).mono ?_
  rintro e mt ⟨rfl,iv⟩
  clear x0 x1
  clear Cxt_113
  have Tt_114:=Tt_113.iv iv (by omega)
  have Tp_114:=Tp_113.iv iv (by omega)
  have Rs0_114:=Rs0_113.iv iv (by omega)
  have Gs0_114:=Gs0_113.iv iv (by omega)
  have Rs1_114:=Rs1_113.iv iv (by omega)
  have Gs1_114:=Gs1_113.iv iv (by omega)
  have Xt_114:=Xt_113.iv iv (by omega)
  have Cxp_114:=Cxp_113.iv iv (by omega)
  have Xp_114:=Xp_113.iv iv (by omega)
  have Ri0_114:=Ri0_113.iv iv (by omega)
  have Ri1_114:=Ri1_113.iv iv (by omega)
  have Gi0_114:=Gi0_113.iv iv (by omega)
  have Gi1_114:=Gi1_113.iv iv (by omega)
  have B_114:=iv.toBelow B_113 B_113.size (by omega)
  clear Tt_113 Tp_113 Rs0_113 Gs0_113 Rs1_113 Gs1_113 Xt_113 Cxp_113 Xp_113 Ri0_113 Ri1_113 Gi0_113 Gi1_113 B_113
  clear iv
  obtain ⟨kt,hkt⟩:∃ z:Int,(1:Int)+(totH t.ts:Int)=z:=⟨_,rfl⟩
  rw [hkt]
  have ktl:1≤kt∧kt≤100000000:=by omega
  have ktn:¬ kt < 0:=by omega
  clear hkt
  have x0:mt.cell? ⟨xp.heap.size,0,none⟩=some (.int .i64 p.q):=Xp_114.c 0
  have x1:mt.cell? ⟨xp.heap.size,1,none⟩=some (.int .i64 p.s):=Xp_114.c 1
  have x2:mt.cell? ⟨xp.heap.size,2,none⟩=some (.slice (some ⟨gxp,0,none⟩) p.l.length p.l.length):=Xp_114.c 2
  have x3:mt.cell? ⟨xp.heap.size,3,none⟩=some (.int .i64 p.fr):=Xp_114.c 3
  have x4:mt.cell? ⟨xp.heap.size,4,none⟩=some (.int .i64 p.b):=Xp_114.c 4
  go_wp2_with fail
  refine (markPath_iv p kt Cxp_114 hlp ⟨by omega,by omega⟩).mono ?_
  rintro e mp ⟨rfl,iv⟩
  clear x0 x1 x2 x3 x4
  clear Cxp_114
  have Tt_115:=Tt_114.iv iv (by omega)
  have Tp_115:=Tp_114.iv iv (by omega)
  have Rs0_115:=Rs0_114.iv iv (by omega)
  have Gs0_115:=Gs0_114.iv iv (by omega)
  have Rs1_115:=Rs1_114.iv iv (by omega)
  have Gs1_115:=Gs1_114.iv iv (by omega)
  have Xt_115:=Xt_114.iv iv (by omega)
  have Xp_115:=Xp_114.iv iv (by omega)
  have Ri0_115:=Ri0_114.iv iv (by omega)
  have Ri1_115:=Ri1_114.iv iv (by omega)
  have Gi0_115:=Gi0_114.iv iv (by omega)
  have Gi1_115:=Gi1_114.iv iv (by omega)
  have B_115:=iv.toBelow B_114 B_114.size (by omega)
  clear Tt_114 Tp_114 Rs0_114 Gs0_114 Rs1_114 Gs1_114 Xt_114 Xp_114 Ri0_114 Ri1_114 Gi0_114 Gi1_114 B_114
  clear iv
  obtain ⟨kp,hkp⟩:∃ z:Int,kt+((p.l.length * 7:Nat):Int)=z:=⟨_,rfl⟩
  rw [hkp]
  have kpl:1≤kp∧kp≤200000000:=by omega
  have kpn:¬ kp < 0:=by omega
  clear hkp
  clear Xt_115
  clear Xp_115
  have d0:mp.cell? ⟨u7.heap.size,0,none⟩=some (.int .i64 rla):=Gi0_115.c 0
  have d1:mp.cell? ⟨u7.heap.size,1,none⟩=some (.slice ai0 ks.length ci0):=Gi0_115.c 1
  have e0:mp.cell? ⟨Ks,0,none⟩=some (.int .i64 rla):=Gs0_115.c 0
  have e1:mp.cell? ⟨Ks,1,none⟩=some (.slice as0 ks.length cs0):=Gs0_115.c 1
  go_wp2_with fail
  refine (Ri0_115.eq rla Rs0_115 hlr hsr).mono ?_
  rintro e wf0 ⟨rfl,hb⟩
  clear d0 d1 e0 e1
  have Tt_116:=Tt_115.keep hb
  have Tp_116:=Tp_115.keep hb
  have Rs0_116:=Rs0_115.below hb
  have Gs0_116:=Gs0_115.keep hb
  have Rs1_116:=Rs1_115.below hb
  have Gs1_116:=Gs1_115.keep hb
  have Ri0_116:=Ri0_115.below hb
  have Ri1_116:=Ri1_115.below hb
  have Gi0_116:=Gi0_115.keep hb
  have Gi1_116:=Gi1_115.keep hb
  have B_116:=B_115.trans (hb.mono B_115.size)
  clear Tt_115 Tp_115 Rs0_115 Gs0_115 Rs1_115 Gs1_115 Ri0_115 Ri1_115 Gi0_115 Gi1_115 B_115
  clear hb
  have d0:wf0.cell? ⟨u7.heap.size+1,0,none⟩=some (.int .i64 rk):=Gi1_116.c 0
  have d1:wf0.cell? ⟨u7.heap.size+1,1,none⟩=some (.string rn):=Gi1_116.c 1
  have d2:wf0.cell? ⟨u7.heap.size+1,2,none⟩=some (.int .i64 rm):=Gi1_116.c 2
  have d3:wf0.cell? ⟨u7.heap.size+1,3,none⟩=some (.int .i64 rq):=Gi1_116.c 3
  have d4:wf0.cell? ⟨u7.heap.size+1,4,none⟩=some (.int .i64 rs):=Gi1_116.c 4
  have d5:wf0.cell? ⟨u7.heap.size+1,5,none⟩=some (.slice ai1 rl.length ci1):=Gi1_116.c 5
  have d6:wf0.cell? ⟨u7.heap.size+1,6,none⟩=some (.int .i64 rf):=Gi1_116.c 6
  have d7:wf0.cell? ⟨u7.heap.size+1,7,none⟩=some (.int .i64 rb):=Gi1_116.c 7
  have e0:wf0.cell? ⟨Ls,0,none⟩=some (.int .i64 rk):=Gs1_116.c 0
  have e1:wf0.cell? ⟨Ls,1,none⟩=some (.string rn):=Gs1_116.c 1
  have e2:wf0.cell? ⟨Ls,2,none⟩=some (.int .i64 rm):=Gs1_116.c 2
  have e3:wf0.cell? ⟨Ls,3,none⟩=some (.int .i64 rq):=Gs1_116.c 3
  have e4:wf0.cell? ⟨Ls,4,none⟩=some (.int .i64 rs):=Gs1_116.c 4
  have e5:wf0.cell? ⟨Ls,5,none⟩=some (.slice as1 rl.length cs1):=Gs1_116.c 5
  have e6:wf0.cell? ⟨Ls,6,none⟩=some (.int .i64 rf):=Gs1_116.c 6
  have e7:wf0.cell? ⟨Ls,7,none⟩=some (.int .i64 rb):=Gs1_116.c 7
  go_wp2_with fail
  refine (Ri1_116.eq rk rm rq rs rf rb rn Rs1_116 hll).mono ?_
  rintro e wf1 ⟨rfl,hb⟩
  clear d0 d1 d2 d3 d4 d5 d6 d7 e0 e1 e2 e3 e4 e5 e6 e7
  have Tt_117:=Tt_116.keep hb
  have Tp_117:=Tp_116.keep hb
  have Rs0_117:=Rs0_116.below hb
  have Gs0_117:=Gs0_116.keep hb
  have Rs1_117:=Rs1_116.below hb
  have Gs1_117:=Gs1_116.keep hb
  have Ri0_117:=Ri0_116.below hb
  have Ri1_117:=Ri1_116.below hb
  have Gi0_117:=Gi0_116.keep hb
  have Gi1_117:=Gi1_116.keep hb
  have B_117:=B_116.trans (hb.mono B_116.size)
  clear Tt_116 Tp_116 Rs0_116 Gs0_116 Rs1_116 Gs1_116 Ri0_116 Ri1_116 Gi0_116 Gi1_116 B_116
  clear hb
  have d0:wf1.cell? ⟨u7.heap.size,0,none⟩=some (.int .i64 rla):=Gi0_117.c 0
  have d1:wf1.cell? ⟨u7.heap.size,1,none⟩=some (.slice ai0 ks.length ci0):=Gi0_117.c 1
  go_wp2_with fail
  refine (Ri0_117.mark rla 1 hlr hsr ⟨by omega,by omega⟩).mono ?_
  rintro e mr0 ⟨rfl,M,iv⟩
  clear d0 d1
  clear Ri0_117
  have Tt_118:=Tt_117.iv iv (by omega)
  have Tp_118:=Tp_117.iv iv (by omega)
  have Rs0_118:=Rs0_117.iv iv (by omega)
  have Gs0_118:=Gs0_117.iv iv (by omega)
  have Rs1_118:=Rs1_117.iv iv (by omega)
  have Gs1_118:=Gs1_117.iv iv (by omega)
  have Ri1_118:=Ri1_117.iv iv (by omega)
  have Gi0_118:=Gi0_117.iv iv (by omega)
  have Gi1_118:=Gi1_117.iv iv (by omega)
  have B_118:=iv.toBelow B_117 B_117.size (by omega)
  clear Tt_117 Tp_117 Rs0_117 Gs0_117 Rs1_117 Gs1_117 Ri1_117 Gi0_117 Gi1_117 B_117
  have M0:=M
  clear M iv
  obtain ⟨r0,hr0⟩:∃ z:Int,(1:Int)+(totK ks:Int)=z:=⟨_,rfl⟩
  rw [hr0]
  have r0l:1≤r0∧r0≤100000000:=by omega
  have r0n:¬ r0 < 0:=by omega
  have Hr0:Hid ((1:Int)+(totK ks:Int)=r0):=hr0
  clear hr0
  have d0:mr0.cell? ⟨u7.heap.size+1,0,none⟩=some (.int .i64 rk):=Gi1_118.c 0
  have d1:mr0.cell? ⟨u7.heap.size+1,1,none⟩=some (.string rn):=Gi1_118.c 1
  have d2:mr0.cell? ⟨u7.heap.size+1,2,none⟩=some (.int .i64 rm):=Gi1_118.c 2
  have d3:mr0.cell? ⟨u7.heap.size+1,3,none⟩=some (.int .i64 rq):=Gi1_118.c 3
  have d4:mr0.cell? ⟨u7.heap.size+1,4,none⟩=some (.int .i64 rs):=Gi1_118.c 4
  have d5:mr0.cell? ⟨u7.heap.size+1,5,none⟩=some (.slice ai1 rl.length ci1):=Gi1_118.c 5
  have d6:mr0.cell? ⟨u7.heap.size+1,6,none⟩=some (.int .i64 rf):=Gi1_118.c 6
  have d7:mr0.cell? ⟨u7.heap.size+1,7,none⟩=some (.int .i64 rb):=Gi1_118.c 7
  go_wp2_with fail
  refine (Ri1_118.mark rk rm rq rs rf rb r0 rn hll ⟨by omega,by omega⟩).mono ?_
  rintro e mr1 ⟨rfl,M,iv⟩
  clear d0 d1 d2 d3 d4 d5 d6 d7
  clear Ri1_118
  have Tt_119:=Tt_118.iv iv (by omega)
  have Tp_119:=Tp_118.iv iv (by omega)
  have Rs0_119:=Rs0_118.iv iv (by omega)
  have Gs0_119:=Gs0_118.iv iv (by omega)
  have Rs1_119:=Rs1_118.iv iv (by omega)
  have Gs1_119:=Gs1_118.iv iv (by omega)
  have Gi0_119:=Gi0_118.iv iv (by omega)
  have Gi1_119:=Gi1_118.iv iv (by omega)
  have M0_119:=M0.iv iv (by omega)
  have B_119:=iv.toBelow B_118 B_118.size (by omega)
  clear Tt_118 Tp_118 Rs0_118 Gs0_118 Rs1_118 Gs1_118 Gi0_118 Gi1_118 M0 B_118
  have M1:=M
  clear M iv
  obtain ⟨r1,hr1⟩:∃ z:Int,r0+((rl.length * 7:Nat):Int)=z:=⟨_,rfl⟩
  rw [hr1]
  have r1l:1≤r1∧r1≤200000000:=by omega
  have r1n:¬ r1 < 0:=by omega
  have Hr1:Hid (r0+((rl.length * 7:Nat):Int)=r1):=hr1
  clear hr1
  have d0:mr1.cell? ⟨u7.heap.size,0,none⟩=some (.int .i64 rla):=Gi0_119.c 0
  have d1:mr1.cell? ⟨u7.heap.size,1,none⟩=some (.slice ai0 ks.length ci0):=Gi0_119.c 1
  go_wp2_with fail
  refine (M0_119.held rla hlr hsr ⟨by omega,by omega⟩).mono ?_
  rintro e ha0 ⟨rfl,hb⟩
  clear d0 d1
  have Tt_120:=Tt_119.keep hb
  have Tp_120:=Tp_119.keep hb
  have Rs0_120:=Rs0_119.below hb
  have Gs0_120:=Gs0_119.keep hb
  have Rs1_120:=Rs1_119.below hb
  have Gs1_120:=Gs1_119.keep hb
  have Gi0_120:=Gi0_119.keep hb
  have Gi1_120:=Gi1_119.keep hb
  have M0_120:=M0_119.below hb
  have M1_120:=M1.below hb
  have B_120:=B_119.trans (hb.mono B_119.size)
  clear Tt_119 Tp_119 Rs0_119 Gs0_119 Rs1_119 Gs1_119 Gi0_119 Gi1_119 M0_119 M1 B_119
  clear hb
  rw [Hr0.out]
  have d0:ha0.cell? ⟨u7.heap.size+1,0,none⟩=some (.int .i64 rk):=Gi1_120.c 0
  have d1:ha0.cell? ⟨u7.heap.size+1,1,none⟩=some (.string rn):=Gi1_120.c 1
  have d2:ha0.cell? ⟨u7.heap.size+1,2,none⟩=some (.int .i64 rm):=Gi1_120.c 2
  have d3:ha0.cell? ⟨u7.heap.size+1,3,none⟩=some (.int .i64 rq):=Gi1_120.c 3
  have d4:ha0.cell? ⟨u7.heap.size+1,4,none⟩=some (.int .i64 rs):=Gi1_120.c 4
  have d5:ha0.cell? ⟨u7.heap.size+1,5,none⟩=some (.slice ai1 rl.length ci1):=Gi1_120.c 5
  have d6:ha0.cell? ⟨u7.heap.size+1,6,none⟩=some (.int .i64 rf):=Gi1_120.c 6
  have d7:ha0.cell? ⟨u7.heap.size+1,7,none⟩=some (.int .i64 rb):=Gi1_120.c 7
  go_wp2_with fail
  refine (M1_120.held rk rm rq rs rf rb r0 rn hll ⟨by omega,by omega⟩).mono ?_
  rintro e ha1 ⟨rfl,hb⟩
  clear d0 d1 d2 d3 d4 d5 d6 d7
  have Tt_121:=Tt_120.keep hb
  have Tp_121:=Tp_120.keep hb
  have Rs0_121:=Rs0_120.below hb
  have Gs0_121:=Gs0_120.keep hb
  have Rs1_121:=Rs1_120.below hb
  have Gs1_121:=Gs1_120.keep hb
  have Gi0_121:=Gi0_120.keep hb
  have Gi1_121:=Gi1_120.keep hb
  have M0_121:=M0_120.below hb
  have M1_121:=M1_120.below hb
  have B_121:=B_120.trans (hb.mono B_120.size)
  clear Tt_120 Tp_120 Rs0_120 Gs0_120 Rs1_120 Gs1_120 Gi0_120 Gi1_120 M0_120 M1_120 B_120
  clear hb
  rw [Hr1.out]
  have M2:TwoX w ha1 ha1.drew #[.int .i64 t.la,.slice t.a t.ts.length t.cap] #[.int .i64 p.q,.int .i64 p.s,.slice p.a p.l.length p.cap,.int .i64 p.fr,.int .i64 p.b]:=TwoX.keep (w0:=ha1) ⟨B_121,Below.refl _ _,Tt_121,Tp_121⟩ ((Below.refl _ _).drew)
  have c0:ha1.cell? ⟨w.heap.size,0,none⟩=some (.int .i64 t.la):=Tt_121.c 0
  have c1:ha1.cell? ⟨w.heap.size,1,none⟩=some (.slice t.a t.ts.length t.cap):=Tt_121.c 1
  have d0:ha1.cell? ⟨w.heap.size+1,0,none⟩=some (.int .i64 p.q):=Tp_121.c 0
  have d1:ha1.cell? ⟨w.heap.size+1,1,none⟩=some (.int .i64 p.s):=Tp_121.c 1
  have d2:ha1.cell? ⟨w.heap.size+1,2,none⟩=some (.slice p.a p.l.length p.cap):=Tp_121.c 2
  have d3:ha1.cell? ⟨w.heap.size+1,3,none⟩=some (.int .i64 p.fr):=Tp_121.c 3
  have d4:ha1.cell? ⟨w.heap.size+1,4,none⟩=some (.int .i64 p.b):=Tp_121.c 4
  go_wp2
  rename_i K2 hK2
  have REST2:∀ {x0 x2 x5 x7 x8 x9 x13 x14 x18 x20 x24 x25 x26 x27 x28 x29 x30 x31 x32 x33 x34 x35 x36 x37 x38 x39 x40 x41 x42 x43 x44 x45 x46 x47 x48 x49 x50 x51 x52 x53 x54 x55 x56 x57 x58 x59 x60 x61 x62 x63 x64 x65 x66 x67 x68 x69 x70 x71 x72 x73 x74 x75 x76 x77 x78 x79 x80 x81 x82 x83 x84 x85 x86 x87 x88 x89 x90 x91 x92 x93 x94 x95 x96 x97 x98 x99 x100 x101 x102 x103 x104 x105 x106 x107 x108 x109 x110 x111 x112 x113 x114 x115 x116 x117 x118 x119 x120 x121 x122 x123 x124 x125 x126 x127 x128 x129 x130 x131 x132 x133 x134 x135 x136 x137 x138 x139 x140 x141 x142 x143 x144 x145 x146 x147 x148 x149 x150 x151 x152 x153 x154 x155 x156 x157 x158 x159 x160 x161 x162 x163 x164 x165 x166 x167 x168:Value} {Kh Lh loh midh hih ch0 ch1:Nat} {ah0 ah1:Option Addr} {Vh:World},TwoQ w ha1 Vh #[.int .i64 t.la,.slice t.a t.ts.length t.cap] #[.int .i64 p.q,.int .i64 p.s,.slice p.a p.l.length p.cap,.int .i64 p.fr,.int .i64 p.b] Kh #[.int .i64 rla,.slice ah0 ks.length ch0] Lh #[.int .i64 rk,.string rn,.int .i64 rm,.int .i64 rq,.int .i64 rs,.slice ah1 rl.length ch1,.int .i64 rf,.int .i64 rb]→BkAns Vh loh midh (.slice ah0 ks.length ch0) ks→WdAns Vh midh hih ah1 ch1 rl→w.heap.size+1 < loh→loh≤midh→midh≤hih→hih≤Vh.heap.size→(Kh < loh∨hih≤Kh)→(Lh < loh∨hih≤Lh)→K2 ⟨#[x0,.string nm,x2,.int .i64 now,.pointer (some ⟨w.heap.size,0,none⟩),x5,.pointer (some ⟨w.heap.size+1,0,none⟩),x7,x8,x9,.pointer (some ⟨Ks,0,none⟩),.pointer (some ⟨Ls,0,none⟩),.int .i64 rc,x13,x14,.pointer (some ⟨u7.heap.size,0,none⟩),.pointer (some ⟨u7.heap.size+1,0,none⟩),.int .i64 rc,x18,.int .i64 r1,x20,.pointer (some ⟨Kh,0,none⟩),.pointer (some ⟨Lh,0,none⟩),.int .i64 rc,x24,x25,x26,x27,x28,x29,x30,x31,x32,x33,x34,x35,x36,x37,x38,x39,x40,x41,x42,x43,x44,x45,x46,x47,x48,x49,x50,x51,x52,x53,x54,x55,x56,x57,x58,x59,x60,x61,x62,x63,x64,x65,x66,x67,x68,x69,x70,x71,x72,x73,x74,x75,x76,x77,x78,x79,x80,x81,x82,x83,x84,x85,x86,x87,x88,x89,x90,x91,x92,x93,x94,x95,x96,x97,x98,x99,x100,x101,x102,x103,x104,x105,x106,x107,x108,x109,x110,x111,x112,x113,x114,x115,x116,x117,x118,x119,x120,x121,x122,x123,x124,x125,x126,x127,x128,x129,x130,x131,x132,x133,x134,x135,x136,x137,x138,x139,x140,x141,x142,x143,x144,x145,x146,x147,x148,x149,x150,x151,x152,x153,x154,x155,x156,x157,x158,x159,x160,x161,x162,x163,x164,x165,x166,x167,x168],[]⟩ Vh:=by
   intro x0 x2 x5 x7 x8 x9 x13 x14 x18 x20 x24 x25 x26 x27 x28 x29 x30 x31 x32 x33 x34 x35 x36 x37 x38 x39 x40 x41 x42 x43 x44 x45 x46 x47 x48 x49 x50 x51 x52 x53 x54 x55 x56 x57 x58 x59 x60 x61 x62 x63 x64 x65 x66 x67 x68 x69 x70 x71 x72 x73 x74 x75 x76 x77 x78 x79 x80 x81 x82 x83 x84 x85 x86 x87 x88 x89 x90 x91 x92 x93 x94 x95 x96 x97 x98 x99 x100 x101 x102 x103 x104 x105 x106 x107 x108 x109 x110 x111 x112 x113 x114 x115 x116 x117 x118 x119 x120 x121 x122 x123 x124 x125 x126 x127 x128 x129 x130 x131 x132 x133 x134 x135 x136 x137 x138 x139 x140 x141 x142 x143 x144 x145 x146 x147 x148 x149 x150 x151 x152 x153 x154 x155 x156 x157 x158 x159 x160 x161 x162 x163 x164 x165 x166 x167 x168 Kh Lh loh midh hih ch0 ch1 ah0 ah1 Vh HB RRh0 RRh1 zoh zmh znh zhh zkah zkbh
   clear c0 c1 d0 d1 d2 d3 d4 M2
   refine hK2 _ _ ?_
   have Tt_222:=Tt_121.keep HB.both.now
   have Tp_222:=Tp_121.keep HB.both.now
   have Rs0_222:=Rs0_121.below HB.both.now
   have Gs0_222:=Gs0_121.keep HB.both.now
   have Rs1_222:=Rs1_121.below HB.both.now
   have Gs1_222:=Gs1_121.keep HB.both.now
   have Gi0_222:=Gi0_121.keep HB.both.now
   have Gi1_222:=Gi1_121.keep HB.both.now
   have M0_222:=M0_121.below HB.both.now
   have M1_222:=M1_121.below HB.both.now
   have B_222:=B_121.trans (HB.both.now.mono B_121.size)
   clear Tt_121 Tp_121 Rs0_121 Gs0_121 Rs1_121 Gs1_121 Gi0_121 Gi1_121 M0_121 M1_121 B_121
   have Gh0:=HB.boxK
   have Gh1:=HB.boxL
   have Rh0:=RRh0
   have Rh1:=RRh1
   clear HB RRh0 RRh1
   have d0:Vh.cell? ⟨Kh,0,none⟩=some (.int .i64 rla):=Gh0.c 0
   have d1:Vh.cell? ⟨Kh,1,none⟩=some (.slice ah0 ks.length ch0):=Gh0.c 1
   have e0:Vh.cell? ⟨Ks,0,none⟩=some (.int .i64 rla):=Gs0_222.c 0
   have e1:Vh.cell? ⟨Ks,1,none⟩=some (.slice as0 ks.length cs0):=Gs0_222.c 1
   go_wp2_with fail
   refine (Rh0.eq rla Rs0_222 hlr hsr).mono ?_
   rintro e wh0 ⟨rfl,hb⟩
   clear d0 d1 e0 e1
   have Tt_223:=Tt_222.keep hb
   have Tp_223:=Tp_222.keep hb
   have Rs0_223:=Rs0_222.below hb
   have Gs0_223:=Gs0_222.keep hb
   have Rs1_223:=Rs1_222.below hb
   have Gs1_223:=Gs1_222.keep hb
   have Gi0_223:=Gi0_222.keep hb
   have Gi1_223:=Gi1_222.keep hb
   have M0_223:=M0_222.below hb
   have M1_223:=M1_222.below hb
   have Gh0_223:=Gh0.keep hb
   have Rh0_223:=Rh0.below hb
   have Gh1_223:=Gh1.keep hb
   have Rh1_223:=Rh1.below hb
   have B_223:=B_222.trans (hb.mono B_222.size)
   clear Tt_222 Tp_222 Rs0_222 Gs0_222 Rs1_222 Gs1_222 Gi0_222 Gi1_222 M0_222 M1_222 Gh0 Rh0 Gh1 Rh1 B_222
   clear hb
   have d0:wh0.cell? ⟨Lh,0,none⟩=some (.int .i64 rk):=Gh1_223.c 0
   have d1:wh0.cell? ⟨Lh,1,none⟩=some (.string rn):=Gh1_223.c 1
   have d2:wh0.cell? ⟨Lh,2,none⟩=some (.int .i64 rm):=Gh1_223.c 2
   have d3:wh0.cell? ⟨Lh,3,none⟩=some (.int .i64 rq):=Gh1_223.c 3
   have d4:wh0.cell? ⟨Lh,4,none⟩=some (.int .i64 rs):=Gh1_223.c 4
   have d5:wh0.cell? ⟨Lh,5,none⟩=some (.slice ah1 rl.length ch1):=Gh1_223.c 5
   have d6:wh0.cell? ⟨Lh,6,none⟩=some (.int .i64 rf):=Gh1_223.c 6
   have d7:wh0.cell? ⟨Lh,7,none⟩=some (.int .i64 rb):=Gh1_223.c 7
   have e0:wh0.cell? ⟨Ls,0,none⟩=some (.int .i64 rk):=Gs1_223.c 0
   have e1:wh0.cell? ⟨Ls,1,none⟩=some (.string rn):=Gs1_223.c 1
   have e2:wh0.cell? ⟨Ls,2,none⟩=some (.int .i64 rm):=Gs1_223.c 2
   have e3:wh0.cell? ⟨Ls,3,none⟩=some (.int .i64 rq):=Gs1_223.c 3
   have e4:wh0.cell? ⟨Ls,4,none⟩=some (.int .i64 rs):=Gs1_223.c 4
   have e5:wh0.cell? ⟨Ls,5,none⟩=some (.slice as1 rl.length cs1):=Gs1_223.c 5
   have e6:wh0.cell? ⟨Ls,6,none⟩=some (.int .i64 rf):=Gs1_223.c 6
   have e7:wh0.cell? ⟨Ls,7,none⟩=some (.int .i64 rb):=Gs1_223.c 7
   go_wp2_with fail
   refine (Rh1_223.eq rk rm rq rs rf rb rn Rs1_223 hll).mono ?_
   rintro e wh1 ⟨rfl,hb⟩
   clear d0 d1 d2 d3 d4 d5 d6 d7 e0 e1 e2 e3 e4 e5 e6 e7
   have Tt_224:=Tt_223.keep hb
   have Tp_224:=Tp_223.keep hb
   have Rs0_224:=Rs0_223.below hb
   have Gs0_224:=Gs0_223.keep hb
   have Rs1_224:=Rs1_223.below hb
   have Gs1_224:=Gs1_223.keep hb
   have Gi0_224:=Gi0_223.keep hb
   have Gi1_224:=Gi1_223.keep hb
   have M0_224:=M0_223.below hb
   have M1_224:=M1_223.below hb
   have Gh0_224:=Gh0_223.keep hb
   have Rh0_224:=Rh0_223.below hb
   have Gh1_224:=Gh1_223.keep hb
   have Rh1_224:=Rh1_223.below hb
   have B_224:=B_223.trans (hb.mono B_223.size)
   clear Tt_223 Tp_223 Rs0_223 Gs0_223 Rs1_223 Gs1_223 Gi0_223 Gi1_223 M0_223 M1_223 Gh0_223 Rh0_223 Gh1_223 Rh1_223 B_223
   clear hb
   have d0:wh1.cell? ⟨u7.heap.size,0,none⟩=some (.int .i64 rla):=Gi0_224.c 0
   have d1:wh1.cell? ⟨u7.heap.size,1,none⟩=some (.slice ai0 ks.length ci0):=Gi0_224.c 1
   go_wp2_with fail
   refine (M0_224.held rla hlr hsr ⟨by omega,by omega⟩).mono ?_
   rintro e hz0 ⟨rfl,hb⟩
   clear d0 d1
   have Tt_225:=Tt_224.keep hb
   have Tp_225:=Tp_224.keep hb
   have Rs0_225:=Rs0_224.below hb
   have Gs0_225:=Gs0_224.keep hb
   have Rs1_225:=Rs1_224.below hb
   have Gs1_225:=Gs1_224.keep hb
   have Gi0_225:=Gi0_224.keep hb
   have Gi1_225:=Gi1_224.keep hb
   have M0_225:=M0_224.below hb
   have M1_225:=M1_224.below hb
   have Gh0_225:=Gh0_224.keep hb
   have Rh0_225:=Rh0_224.below hb
   have Gh1_225:=Gh1_224.keep hb
   have Rh1_225:=Rh1_224.below hb
   have B_225:=B_224.trans (hb.mono B_224.size)
   clear Tt_224 Tp_224 Rs0_224 Gs0_224 Rs1_224 Gs1_224 Gi0_224 Gi1_224 M0_224 M1_224 Gh0_224 Rh0_224 Gh1_224 Rh1_224 B_224
   clear hb
   rw [Hr0.out]
   have d0:hz0.cell? ⟨u7.heap.size+1,0,none⟩=some (.int .i64 rk):=Gi1_225.c 0
   have d1:hz0.cell? ⟨u7.heap.size+1,1,none⟩=some (.string rn):=Gi1_225.c 1
   have d2:hz0.cell? ⟨u7.heap.size+1,2,none⟩=some (.int .i64 rm):=Gi1_225.c 2
   have d3:hz0.cell? ⟨u7.heap.size+1,3,none⟩=some (.int .i64 rq):=Gi1_225.c 3
   have d4:hz0.cell? ⟨u7.heap.size+1,4,none⟩=some (.int .i64 rs):=Gi1_225.c 4
   have d5:hz0.cell? ⟨u7.heap.size+1,5,none⟩=some (.slice ai1 rl.length ci1):=Gi1_225.c 5
   have d6:hz0.cell? ⟨u7.heap.size+1,6,none⟩=some (.int .i64 rf):=Gi1_225.c 6
   have d7:hz0.cell? ⟨u7.heap.size+1,7,none⟩=some (.int .i64 rb):=Gi1_225.c 7
   go_wp2_with fail
   refine (M1_225.held rk rm rq rs rf rb r0 rn hll ⟨by omega,by omega⟩).mono ?_
   rintro e hz1 ⟨rfl,hb⟩
   clear d0 d1 d2 d3 d4 d5 d6 d7
   have Tt_226:=Tt_225.keep hb
   have Tp_226:=Tp_225.keep hb
   have Rs0_226:=Rs0_225.below hb
   have Gs0_226:=Gs0_225.keep hb
   have Rs1_226:=Rs1_225.below hb
   have Gs1_226:=Gs1_225.keep hb
   have Gi0_226:=Gi0_225.keep hb
   have Gi1_226:=Gi1_225.keep hb
   have M0_226:=M0_225.below hb
   have M1_226:=M1_225.below hb
   have Gh0_226:=Gh0_225.keep hb
   have Rh0_226:=Rh0_225.below hb
   have Gh1_226:=Gh1_225.keep hb
   have Rh1_226:=Rh1_225.below hb
   have B_226:=B_225.trans (hb.mono B_225.size)
   clear Tt_225 Tp_225 Rs0_225 Gs0_225 Rs1_225 Gs1_225 Gi0_225 Gi1_225 M0_225 M1_225 Gh0_225 Rh0_225 Gh1_225 Rh1_225 B_225
   clear hb
   rw [Hr1.out]
   go_wp2
   go_ret
   exact ⟨rfl,B_226⟩
  clear hK2
  clear c0 c1 d0 d1 d2 d3 d4
  as_aux_lemma =>
   refine region_inv 15 (by kernel_rfl) (by kernel_rfl) (by kernel_rfl) (by kernel_rfl) (fileI2 t nm p now rla rk rm rq rs rf rb rc rn ks rl w ha1 (.string nm) (.int .i64 now) (.pointer (some ⟨w.heap.size,0,none⟩)) (.pointer (some ⟨w.heap.size+1,0,none⟩)) (.pointer (some ⟨Ks,0,none⟩)) (.pointer (some ⟨Ls,0,none⟩)) (.int .i64 rc) (.pointer (some ⟨u7.heap.size,0,none⟩)) (.pointer (some ⟨u7.heap.size+1,0,none⟩)) (.int .i64 rc) (.int .i64 r1)) (.mk (Rg.zero M2)) ?_ ?_
   ·change StepsOk _ _ _ _ _ [0,1,2,3,4,5,6,7,8,9,10,11,12,13,14]
    refine StepsOk.cons rfl (fun L a V hL hd hI K hK=>?_) ?_
    ·cases hI with
     | mk h =>
      obtain ⟨c0,c1,c2,c3,c4,c5,c6⟩:=file_cells h.m
      go_simp
      exact hK _ _ (.mk (h.s0))
    refine StepsOk.cons rfl (fun L a V hL hd hI K hK=>?_) ?_
    ·cases hI with
     | mk h =>
      obtain rfl:=h.o0 (hd 0 (by kernel_rfl))
      go_simp
      refine (toBook_put t _ hlt hst (ht.below h.m.old)).mono ?_
      rintro e V1 ⟨g,rfl,hg,hq,hb⟩
      exact hK _ _ (.mk ((h.grow hb).s1 _ _ hq))
    refine StepsOk.cons rfl (fun L a V hL hd hI K hK=>?_) ?_
    ·cases hI with
     | mk h =>
      go_simp
      exact hK _ _ (.mk (h.s2))
    refine StepsOk.cons rfl (fun L a V hL hd hI K hK=>?_) ?_
    ·cases hI with
     | mk h =>
      obtain ⟨c0,c1,c2,c3,c4,c5,c6⟩:=file_cells h.m
      go_simp
      exact hK _ _ (.mk (h.s3))
    refine StepsOk.cons rfl (fun L a V hL hd hI K hK=>?_) ?_
    ·cases hI with
     | mk h =>
      obtain rfl:=h.o3 (hd 3 (by kernel_rfl))
      go_simp
      refine (toPath_put p _ hlp (hp.below h.m.old hp.lt)).mono ?_
      rintro e V1 ⟨g,rfl,hg,hq,hb⟩
      exact hK _ _ (.mk ((h.grow hb).s4 _ _ hq))
    refine StepsOk.cons rfl (fun L a V hL hd hI K hK=>?_) ?_
    ·cases hI with
     | mk h =>
      go_simp
      exact hK _ _ (.mk (h.s5))
    refine StepsOk.cons rfl (fun L a V hL hd hI K hK=>?_) ?_
    ·cases hI with
     | mk h =>
      obtain ⟨g,k,rfl,q1⟩:=h.o1 (hd 1 (by kernel_rfl)) hL
      obtain rfl:=h.o2 (hd 2 (by kernel_rfl))
      obtain ⟨g2,k2,rfl,q2⟩:=h.o4 (hd 4 (by kernel_rfl)) hL
      obtain rfl:=h.o5 (hd 5 (by kernel_rfl))
      go_simp
      refine (hIm _ _ _ _ _ h.m.old q1 q2).mono ?_
      rintro e V1 ⟨a0,c0,a1,c1,mid,rfl,R0,R1,zlo,zmid,hb⟩
      exact hK _ _ (.mk ((h.grow hb).s6 (fun z=>hL (h.d7 z)) (fun z=>hL (h.d8 z)) (fun z=>hL (h.d9 z)) (fun z=>hL (h.d10 z)) (fun z=>hL (h.e13 z)) (fun z=>hL (h.e14 z)) R0 R1 h.m.two.lt zlo zmid (Nat.le_refl _) (fun z=>(h.a z).2.1.lt) (fun z=>(h.b z).2.1.lt)))
    refine StepsOk.cons rfl (fun L a V hL hd hI K hK=>?_) ?_
    ·cases hI with
     | mk h =>
      go_simp
      exact hK _ _ (.mk (h.s7 (hd 6 (by kernel_rfl))))
    refine StepsOk.cons rfl (fun L a V hL hd hI K hK=>?_) ?_
    ·cases hI with
     | mk h =>
      have g6:=h.d7 (hd 7 (by kernel_rfl))
      obtain ⟨⟨a0,c0,a1,c1,e44,R0,R1⟩,zo,zl,zm,zh⟩:=h.o6 g6
      obtain rfl:=h.o7 (hd 7 (by kernel_rfl))
      subst e44
      go_simp
      exact hK _ _ (.mk (h.s8 g6 rfl))
    refine StepsOk.cons rfl (fun L a V hL hd hI K hK=>?_) ?_
    ·cases hI with
     | mk h =>
      have g6:=h.d7 (hd 7 (by kernel_rfl))
      obtain ⟨⟨a0,c0,a1,c1,e44,R0,R1⟩,zo,zl,zm,zh⟩:=h.o6 g6
      obtain rfl:=h.o7 (hd 7 (by kernel_rfl))
      subst e44
      go_simp
      exact hK _ _ (.mk (h.s9 g6 rfl))
    refine StepsOk.cons rfl (fun L a V hL hd hI K hK=>?_) ?_
    ·cases hI with
     | mk h =>
      have g6:=h.d7 (hd 7 (by kernel_rfl))
      obtain ⟨⟨a0,c0,a1,c1,e44,R0,R1⟩,zo,zl,zm,zh⟩:=h.o6 g6
      obtain rfl:=h.o7 (hd 7 (by kernel_rfl))
      subst e44
      go_simp
      exact hK _ _ (.mk (h.s10 g6 rfl))
    refine StepsOk.cons rfl (fun L a V hL hd hI K hK=>?_) ?_
    ·cases hI with
     | mk h =>
      go_simp
      exact hK _ _ (.mk (h.s11 (fun z=>hL (h.f13 z))))
    refine StepsOk.cons rfl (fun L a V hL hd hI K hK=>?_) ?_
    ·cases hI with
     | mk h =>
      go_simp
      exact hK _ _ (.mk (h.s12 (fun z=>hL (h.f14 z))))
    refine StepsOk.cons rfl (fun L a V hL hd hI K hK=>?_) ?_
    ·cases hI with
     | mk h =>
      have g6:=h.d8 (hd 8 (by kernel_rfl))
      have g11:L 11:=(hd 11 (by kernel_rfl))
      have g12:L 12:=(hd 12 (by kernel_rfl))
      obtain ⟨⟨a0,c0,a1,c1,e44,R0,R1⟩,zo,zl,zm,zh⟩:=h.o6 g6
      subst e44
      obtain ⟨x,y,z,e,rfl⟩:=h.o8 (hd 8 (by kernel_rfl))
      cases e
      obtain ⟨ea,XA,_⟩:=h.a g11
      subst ea
      obtain rfl:=h.za hL
      obtain ⟨T,hT⟩:=XA.it
      rw [if_pos (by rfl)]
      refine wp_store_row 34 _ _ rfl _ _ rfl rfl T _ hT (by kernel_rfl) rfl (by kernel_rfl) ?_
      exact hK _ _ (.mk (h.s13 g6 g11 g12 rfl))
    refine StepsOk.cons rfl (fun L a V hL hd hI K hK=>?_) ?_
    ·cases hI with
     | mk h =>
      have g6:=h.d9 (hd 9 (by kernel_rfl))
      have g11:L 11:=(hd 11 (by kernel_rfl))
      have g12:L 12:=(hd 12 (by kernel_rfl))
      obtain ⟨⟨a0,c0,a1,c1,e44,R0,R1⟩,zo,zl,zm,zh⟩:=h.o6 g6
      subst e44
      obtain ⟨x,y,z,e,rfl⟩:=h.o9 (hd 9 (by kernel_rfl))
      cases e
      obtain ⟨ea,XA,_⟩:=h.b g12
      subst ea
      obtain rfl:=h.zb hL
      obtain ⟨T,hT⟩:=XA.it
      rw [if_pos (by rfl)]
      refine wp_store_row 40 _ _ rfl _ _ rfl rfl T _ hT (by kernel_rfl) rfl (by kernel_rfl) ?_
      exact hK _ _ (.mk (h.s14 g6 g11 g12 rfl))
    exact StepsOk.nil
   ·intro fuel a V hI
    cases hI with
    | mk h =>
     have g6:(6:Nat) < 15:=by decide
     have g11:(11:Nat) < 15:=by decide
     have g12:(12:Nat) < 15:=by decide
     obtain ⟨⟨a0,c0,a1,c1,e44,R0,R1⟩,zo,zl,zm,zh⟩:=h.o6 g6
     subst e44
     obtain ⟨x,y,z,e,rfl⟩:=h.o10 (by decide)
     cases e
     obtain ⟨y1,z1,ea⟩:=h.sa (by decide)
     cases ea
     obtain ⟨y2,z2,eb⟩:=h.sb (by decide)
     cases eb
     have Q2:=h.q g11 g12
     have zK:=h.pa g6 g11
     have zL:=h.pb g6 g12
     obtain ⟨eA,_⟩:=h.a g11
     obtain ⟨eB,_⟩:=h.b g12
     subst eA eB
     clear h
     refine wpAny_ready (rs:=[15]) (by kernel_rfl) (by simp) ?_
     refine AllReady.cons rfl (fun K hK=>?_) AllReady.nil
     go_simp
     refine hK _ _ ?_
     clear hK K
     refine wpAny_done (by kernel_rfl) ?_ _
     exact REST2 Q2 R0 R1 zo zl zm zh zK zL
 clear hK1
 clear c0 c1 d0 d1 d2 d3 d4
 as_aux_lemma =>
  refine region_inv 15 (by kernel_rfl) (by kernel_rfl) (by kernel_rfl) (by kernel_rfl) (fileI1 t nm p now rla rk rm rq rs rf rb rc rn ks rl w s1 (.string nm) (.int .i64 now) (.pointer (some ⟨w.heap.size,0,none⟩)) (.pointer (some ⟨w.heap.size+1,0,none⟩))) (.mk (Rg.zero M2)) ?_ ?_
  ·change StepsOk _ _ _ _ _ [0,1,2,3,4,5,6,7,8,9,10,11,12,13,14]
   refine StepsOk.cons rfl (fun L a V hL hd hI K hK=>?_) ?_
   ·cases hI with
    | mk h =>
     obtain ⟨c0,c1,c2,c3,c4,c5,c6⟩:=file_cells h.m
     go_simp
     exact hK _ _ (.mk (h.s0))
   refine StepsOk.cons rfl (fun L a V hL hd hI K hK=>?_) ?_
   ·cases hI with
    | mk h =>
     obtain rfl:=h.o0 (hd 0 (by kernel_rfl))
     go_simp
     refine (toBook_put t _ hlt hst (ht.below h.m.old)).mono ?_
     rintro e V1 ⟨g,rfl,hg,hq,hb⟩
     exact hK _ _ (.mk ((h.grow hb).s1 _ _ hq))
   refine StepsOk.cons rfl (fun L a V hL hd hI K hK=>?_) ?_
   ·cases hI with
    | mk h =>
     go_simp
     exact hK _ _ (.mk (h.s2))
   refine StepsOk.cons rfl (fun L a V hL hd hI K hK=>?_) ?_
   ·cases hI with
    | mk h =>
     obtain ⟨c0,c1,c2,c3,c4,c5,c6⟩:=file_cells h.m
     go_simp
     exact hK _ _ (.mk (h.s3))
   refine StepsOk.cons rfl (fun L a V hL hd hI K hK=>?_) ?_
   ·cases hI with
    | mk h =>
     obtain rfl:=h.o3 (hd 3 (by kernel_rfl))
     go_simp
     refine (toPath_put p _ hlp (hp.below h.m.old hp.lt)).mono ?_
     rintro e V1 ⟨g,rfl,hg,hq,hb⟩
     exact hK _ _ (.mk ((h.grow hb).s4 _ _ hq))
   refine StepsOk.cons rfl (fun L a V hL hd hI K hK=>?_) ?_
   ·cases hI with
    | mk h =>
     go_simp
     exact hK _ _ (.mk (h.s5))
   refine StepsOk.cons rfl (fun L a V hL hd hI K hK=>?_) ?_
   ·cases hI with
    | mk h =>
     obtain ⟨g,k,rfl,q1⟩:=h.o1 (hd 1 (by kernel_rfl)) hL
     obtain rfl:=h.o2 (hd 2 (by kernel_rfl))
     obtain ⟨g2,k2,rfl,q2⟩:=h.o4 (hd 4 (by kernel_rfl)) hL
     obtain rfl:=h.o5 (hd 5 (by kernel_rfl))
     go_simp
     refine (hSp _ _ _ _ _ h.m.old q1 q2).mono ?_
     rintro e V1 ⟨a0,c0,a1,c1,mid,rfl,R0,R1,zlo,zmid,hb⟩
     exact hK _ _ (.mk ((h.grow hb).s6 (fun z=>hL (h.d7 z)) (fun z=>hL (h.d8 z)) (fun z=>hL (h.d9 z)) (fun z=>hL (h.d10 z)) (fun z=>hL (h.e13 z)) (fun z=>hL (h.e14 z)) R0 R1 h.m.two.lt zlo zmid (Nat.le_refl _) (fun z=>(h.a z).2.1.lt) (fun z=>(h.b z).2.1.lt)))
   refine StepsOk.cons rfl (fun L a V hL hd hI K hK=>?_) ?_
   ·cases hI with
    | mk h =>
     go_simp
     exact hK _ _ (.mk (h.s7 (hd 6 (by kernel_rfl))))
   refine StepsOk.cons rfl (fun L a V hL hd hI K hK=>?_) ?_
   ·cases hI with
    | mk h =>
     have g6:=h.d7 (hd 7 (by kernel_rfl))
     obtain ⟨⟨a0,c0,a1,c1,e44,R0,R1⟩,zo,zl,zm,zh⟩:=h.o6 g6
     obtain rfl:=h.o7 (hd 7 (by kernel_rfl))
     subst e44
     go_simp
     exact hK _ _ (.mk (h.s8 g6 rfl))
   refine StepsOk.cons rfl (fun L a V hL hd hI K hK=>?_) ?_
   ·cases hI with
    | mk h =>
     have g6:=h.d7 (hd 7 (by kernel_rfl))
     obtain ⟨⟨a0,c0,a1,c1,e44,R0,R1⟩,zo,zl,zm,zh⟩:=h.o6 g6
     obtain rfl:=h.o7 (hd 7 (by kernel_rfl))
     subst e44
     go_simp
     exact hK _ _ (.mk (h.s9 g6 rfl))
   refine StepsOk.cons rfl (fun L a V hL hd hI K hK=>?_) ?_
   ·cases hI with
    | mk h =>
     have g6:=h.d7 (hd 7 (by kernel_rfl))
     obtain ⟨⟨a0,c0,a1,c1,e44,R0,R1⟩,zo,zl,zm,zh⟩:=h.o6 g6
     obtain rfl:=h.o7 (hd 7 (by kernel_rfl))
     subst e44
     go_simp
     exact hK _ _ (.mk (h.s10 g6 rfl))
   refine StepsOk.cons rfl (fun L a V hL hd hI K hK=>?_) ?_
   ·cases hI with
    | mk h =>
     go_simp
     exact hK _ _ (.mk (h.s11 (fun z=>hL (h.f13 z))))
   refine StepsOk.cons rfl (fun L a V hL hd hI K hK=>?_) ?_
   ·cases hI with
    | mk h =>
     go_simp
     exact hK _ _ (.mk (h.s12 (fun z=>hL (h.f14 z))))
   refine StepsOk.cons rfl (fun L a V hL hd hI K hK=>?_) ?_
   ·cases hI with
    | mk h =>
     have g6:=h.d8 (hd 8 (by kernel_rfl))
     have g11:L 11:=(hd 11 (by kernel_rfl))
     have g12:L 12:=(hd 12 (by kernel_rfl))
     obtain ⟨⟨a0,c0,a1,c1,e44,R0,R1⟩,zo,zl,zm,zh⟩:=h.o6 g6
     subst e44
     obtain ⟨x,y,z,e,rfl⟩:=h.o8 (hd 8 (by kernel_rfl))
     cases e
     obtain ⟨ea,XA,_⟩:=h.a g11
     subst ea
     obtain rfl:=h.za hL
     obtain ⟨T,hT⟩:=XA.it
     rw [if_pos (by rfl)]
     refine wp_store_row 34 _ _ rfl _ _ rfl rfl T _ hT (by kernel_rfl) rfl (by kernel_rfl) ?_
     exact hK _ _ (.mk (h.s13 g6 g11 g12 rfl))
   refine StepsOk.cons rfl (fun L a V hL hd hI K hK=>?_) ?_
   ·cases hI with
    | mk h =>
     have g6:=h.d9 (hd 9 (by kernel_rfl))
     have g11:L 11:=(hd 11 (by kernel_rfl))
     have g12:L 12:=(hd 12 (by kernel_rfl))
     obtain ⟨⟨a0,c0,a1,c1,e44,R0,R1⟩,zo,zl,zm,zh⟩:=h.o6 g6
     subst e44
     obtain ⟨x,y,z,e,rfl⟩:=h.o9 (hd 9 (by kernel_rfl))
     cases e
     obtain ⟨ea,XA,_⟩:=h.b g12
     subst ea
     obtain rfl:=h.zb hL
     obtain ⟨T,hT⟩:=XA.it
     rw [if_pos (by rfl)]
     refine wp_store_row 40 _ _ rfl _ _ rfl rfl T _ hT (by kernel_rfl) rfl (by kernel_rfl) ?_
     exact hK _ _ (.mk (h.s14 g6 g11 g12 rfl))
   exact StepsOk.nil
  ·intro fuel a V hI
   cases hI with
   | mk h =>
    have g6:(6:Nat) < 15:=by decide
    have g11:(11:Nat) < 15:=by decide
    have g12:(12:Nat) < 15:=by decide
    obtain ⟨⟨a0,c0,a1,c1,e44,R0,R1⟩,zo,zl,zm,zh⟩:=h.o6 g6
    subst e44
    obtain ⟨x,y,z,e,rfl⟩:=h.o10 (by decide)
    cases e
    obtain ⟨y1,z1,ea⟩:=h.sa (by decide)
    cases ea
    obtain ⟨y2,z2,eb⟩:=h.sb (by decide)
    cases eb
    have Q2:=h.q g11 g12
    have zK:=h.pa g6 g11
    have zL:=h.pb g6 g12
    obtain ⟨eA,_⟩:=h.a g11
    obtain ⟨eB,_⟩:=h.b g12
    subst eA eB
    clear h
    refine wpAny_ready (rs:=[15]) (by kernel_rfl) (by simp) ?_
    refine AllReady.cons rfl (fun K hK=>?_) AllReady.nil
    go_simp
    refine hK _ _ ?_
    clear hK K
    refine wpAny_done (by kernel_rfl) ?_ _
    exact REST1 Q2 R0 R1 zo zl zm zh zK zL
end Go.Proofs.YtgjleeamhkolhaaGreatDoor
