/- Part of a proof. -/
import Derived.Test.YtjllhcifmfhkmaaGreatYm
import Derived.Test.YtjllhcifmfhkmaaGreatKa
set_option maxHeartbeats 2000000
namespace Go.Proofs.YtjllhcifmfhkmaaGreat.Oct
open Go.RowKit
theorem nou2 {zs:List Int} (h:12≤zs.length):nouB ((zs.take 12).drop 10)=(decide (zs.getD 10 0=0)&&decide (zs.getD 11 0=0)):=by
 have e:(zs.take 12).drop 10=[zs.getD 10 0,zs.getD 11 0]:=by
  refine row_ext (by rw [List.length_drop,List.length_take];simp;omega) fun i hi=>?_
  rw [List.length_drop,List.length_take] at hi;rcases (show i=0∨i=1 by omega) with rfl|rfl
  ·simp only [List.getD_eq_getElem?_getD,List.getElem?_drop,List.getElem?_take];simp
  ·simp only [List.getD_eq_getElem?_getD,List.getElem?_drop,List.getElem?_take];simp
 rw [e];unfold nouB;simp only [List.all_cons,List.all_nil,Bool.and_true];rfl
set_option maxRecDepth 20000 in
theorem rpiece_err (a:Option Addr) (cap n:Nat) (w:World) (P:Pg) (E:Int)
  (C:Calls Tryz.prog 95 #[.slice a n cap] w fun e w'=>∃g c,e=.returned (.tuple #[pgV P g c,.int .i64 E])∧Own w.heap.size w' (.slice g P.body.length c) P.body∧Below w.heap.size w w') (hE:(E !=0)=true):
  Calls Tryz.prog 98 #[.slice a n cap] w fun e w'=>e=.returned (.tuple #[.slice none 0 0,.int .i64 E])∧Below w.heap.size w w':=by
 dsimp only [pgV] at C;have HC:Hid _:=C;clear C;go_enter Tryz.func98,Tryz.ntmps98
 go_wp2_with fail
 refine (Calls.mono HC.out) ?_;rintro e w1 ⟨g,c,rfl,ho,hb⟩;have HB:Hid (Below w.heap.size w w1):=hb;clear hb ho HC;go_wp2;go_ret2
 exact ⟨rfl,HB.out.alloc HB.out.size _⟩
set_option maxRecDepth 20000 in
theorem rpiece_kind (a:Option Addr) (cap n:Nat) (w:World) (P:Pg) (E:Int)
  (C:Calls Tryz.prog 95 #[.slice a n cap] w fun e w'=>∃g c,e=.returned (.tuple #[pgV P g c,.int .i64 E])∧Own w.heap.size w' (.slice g P.body.length c) P.body∧Below w.heap.size w w') (hE:E=0) (h1:(P.kind !=3)=true):
  Calls Tryz.prog 98 #[.slice a n cap] w fun e w'=>e=.returned (.tuple #[.slice none 0 0,.int .i64 4])∧Below w.heap.size w w':=by
 subst hE;dsimp only [pgV] at C;have HC:Hid _:=C;clear C;go_enter Tryz.func98,Tryz.ntmps98
 go_wp2_with fail
 refine (Calls.mono HC.out) ?_;rintro e w1 ⟨g,c,rfl,ho,hb⟩;have HB:Hid (Below w.heap.size w w1):=hb;clear hb ho HC;go_wp2;go_ret2
 exact ⟨rfl,HB.out.alloc HB.out.size _⟩
set_option maxRecDepth 20000 in
theorem rpiece_lv0 (a:Option Addr) (cap n:Nat) (w:World) (P:Pg) (E:Int)
  (C:Calls Tryz.prog 95 #[.slice a n cap] w fun e w'=>∃g c,e=.returned (.tuple #[pgV P g c,.int .i64 E])∧Own w.heap.size w' (.slice g P.body.length c) P.body∧Below w.heap.size w w') (hE:E=0) (h1:(P.kind !=3)=false) (h2:(P.level !=0)=true):
  Calls Tryz.prog 98 #[.slice a n cap] w fun e w'=>e=.returned (.tuple #[.slice none 0 0,.int .i64 4])∧Below w.heap.size w w':=by
 subst hE;dsimp only [pgV] at C;have HC:Hid _:=C;clear C;go_enter Tryz.func98,Tryz.ntmps98
 go_wp2_with fail
 refine (Calls.mono HC.out) ?_;rintro e w1 ⟨g,c,rfl,ho,hb⟩;have HB:Hid (Below w.heap.size w w1):=hb;clear hb ho HC;go_wp2;go_ret2
 exact ⟨rfl,HB.out.alloc HB.out.size _⟩
set_option maxRecDepth 20000 in
theorem rpiece_least (a:Option Addr) (cap n:Nat) (w:World) (P:Pg) (E:Int)
  (C:Calls Tryz.prog 95 #[.slice a n cap] w fun e w'=>∃g c,e=.returned (.tuple #[pgV P g c,.int .i64 E])∧Own w.heap.size w' (.slice g P.body.length c) P.body∧Below w.heap.size w w') (hE:E=0) (h1:(P.kind !=3)=false) (h2:(P.level !=0)=false) (h3:P.count<1):
  Calls Tryz.prog 98 #[.slice a n cap] w fun e w'=>e=.returned (.tuple #[.slice none 0 0,.int .i64 4])∧Below w.heap.size w w':=by
 subst hE;dsimp only [pgV] at C;have HC:Hid _:=C;clear C;go_enter Tryz.func98,Tryz.ntmps98
 go_wp2_with fail
 refine (Calls.mono HC.out) ?_;rintro e w1 ⟨g,c,rfl,ho,hb⟩;have HB:Hid (Below w.heap.size w w1):=hb;clear hb ho HC;go_wp2;go_ret2
 exact ⟨rfl,HB.out.alloc HB.out.size _⟩
set_option maxRecDepth 20000 in
theorem rpiece_most (a:Option Addr) (cap n:Nat) (w:World) (P:Pg) (E:Int)
  (C:Calls Tryz.prog 95 #[.slice a n cap] w fun e w'=>∃g c,e=.returned (.tuple #[pgV P g c,.int .i64 E])∧Own w.heap.size w' (.slice g P.body.length c) P.body∧Below w.heap.size w w') (hE:E=0) (h1:(P.kind !=3)=false) (h2:(P.level !=0)=false) (h3:1≤P.count) (h4:20<P.count):
  Calls Tryz.prog 98 #[.slice a n cap] w fun e w'=>e=.returned (.tuple #[.slice none 0 0,.int .i64 4])∧Below w.heap.size w w':=by
 subst hE;dsimp only [pgV] at C;have HC:Hid _:=C;clear C;go_enter Tryz.func98,Tryz.ntmps98
 go_wp2_with fail
 refine (Calls.mono HC.out) ?_;rintro e w1 ⟨g,c,rfl,ho,hb⟩;have HB:Hid (Below w.heap.size w w1):=hb;clear hb ho HC;go_wp2;go_ret2
 exact ⟨rfl,HB.out.alloc HB.out.size _⟩
set_option maxRecDepth 20000 in
theorem rpiece_nou (a:Option Addr) (cap n:Nat) (w:World) (P:Pg) (E:Int)
  (C:Calls Tryz.prog 95 #[.slice a n cap] w fun e w'=>∃g c,e=.returned (.tuple #[pgV P g c,.int .i64 E])∧Own w.heap.size w' (.slice g P.body.length c) P.body∧Below w.heap.size w w') (hE:E=0) (h1:(P.kind !=3)=false) (h2:(P.level !=0)=false) (N:Nat) (hk:P.count=N) (hk1:1≤N) (hk2:N≤20) (hlen:P.body.length=248) (hbys:Bys P.body) (hV:nouB (P.body.drop (N*12))=false):
  Calls Tryz.prog 98 #[.slice a n cap] w fun e w'=>e=.returned (.tuple #[.slice none 0 0,.int .i64 4])∧Below w.heap.size w w':=by
 subst hE;dsimp only [pgV] at C;rw [hlen,hk] at C;have HC:Hid _:=C;clear C hk;go_enter Tryz.func98,Tryz.ntmps98
 go_wp2_with fail
 refine (Calls.mono HC.out) ?_;rintro e w1 ⟨g,c,rfl,ho,hb⟩;have HB:Hid (Below w.heap.size w w1):=hb;have HR:Hid (Row (w1.alloc (.cells #[.int .i64 P.kind,.int .i64 P.level,.int .i64 N,.slice g 248 c] 127)) g c P.body):=(ho.row' hbys).2.below ((Below.refl _ _).alloc (Nat.le_refl _) _);clear hb ho HC;obtain ⟨bb,off,hg⟩:=HR.out.some' (by omega);subst hg;have hcap:=HR.out.2.1;have hmx:=HR.out.2.2.1;unfold maxLen at hmx;rw [hlen] at hcap
 have CN:Calls Tryz.prog 97 #[.slice (some ⟨bb,off,none⟩) 248 c,.int .i64 (12*(N:Int))] (w1.alloc (.cells #[.int .i64 P.kind,.int .i64 P.level,.int .i64 N,.slice (some ⟨bb,off,none⟩) 248 c] 127)) fun e w'=>e=.returned (.bool false)∧(w1.alloc (.cells #[.int .i64 P.kind,.int .i64 P.level,.int .i64 N,.slice (some ⟨bb,off,none⟩) 248 c] 127))=w':=by
  have:=rnoughts_v _ _ _ 248 (N*12) _ _ HR.out hlen (by omega) false hV;rw [show ((N*12:Nat):Int)=12*(N:Int) by omega] at this;exact this
 go_wp2_with fail
 refine CN.mono ?_;clear CN;rintro e w3 ⟨rfl,rfl⟩;go_wp2;go_ret2
 exact ⟨rfl,HB.out.alloc HB.out.size _⟩
set_option maxRecDepth 20000 in
theorem rpiece_got (a:Option Addr) (cap n:Nat) (w:World) (P:Pg) (E:Int)
  (C:Calls Tryz.prog 95 #[.slice a n cap] w fun e w'=>∃g c,e=.returned (.tuple #[pgV P g c,.int .i64 E])∧Own w.heap.size w' (.slice g P.body.length c) P.body∧Below w.heap.size w w') (hE:E=0) (h1:(P.kind !=3)=false) (h2:(P.level !=0)=false) (N:Nat) (hk:P.count=N) (hk1:1≤N) (hk2:N≤20) (hlen:P.body.length=248) (hbys:Bys P.body) (hV:nouB (P.body.drop (N*12))=true) (V:Bool) (hW:okL false P.body N=V):
  Calls Tryz.prog 98 #[.slice a n cap] w fun e w'=>∃g m c,e=.returned (.tuple #[.slice g m c,.int .i64 (if V then 0 else 4)])∧m=(if V then N else 0)∧OwnC 72 w.heap.size w' (.slice g m c) (if V then rdL false P.body N else [])∧Below w.heap.size w w':=by
 subst hE;dsimp only [pgV] at C;rw [hlen,hk] at C;have HC:Hid _:=C;clear C hk;go_enter Tryz.func98,Tryz.ntmps98
 go_wp2_with fail
 refine (Calls.mono HC.out) ?_;rintro e w1 ⟨g,c,rfl,ho,hb⟩;have HB:Hid (Below w.heap.size w w1):=hb;have HR:Hid (Row (w1.alloc (.cells #[.int .i64 P.kind,.int .i64 P.level,.int .i64 N,.slice g 248 c] 127)) g c P.body):=(ho.row' hbys).2.below ((Below.refl _ _).alloc (Nat.le_refl _) _);clear hb ho HC;obtain ⟨bb,off,hg⟩:=HR.out.some' (by omega);subst hg;have hcap:=HR.out.2.1;have hmx:=HR.out.2.2.1;unfold maxLen at hmx;rw [hlen] at hcap
 have CN:Calls Tryz.prog 97 #[.slice (some ⟨bb,off,none⟩) 248 c,.int .i64 (12*(N:Int))] (w1.alloc (.cells #[.int .i64 P.kind,.int .i64 P.level,.int .i64 N,.slice (some ⟨bb,off,none⟩) 248 c] 127)) fun e w'=>e=.returned (.bool true)∧(w1.alloc (.cells #[.int .i64 P.kind,.int .i64 P.level,.int .i64 N,.slice (some ⟨bb,off,none⟩) 248 c] 127))=w':=by
  have:=rnoughts_v _ _ _ 248 (N*12) _ _ HR.out hlen (by omega) true hV;rw [show ((N*12:Nat):Int)=12*(N:Int) by omega] at this;exact this
 have HN:Hid (∀j,j<N→okAt false P.body j=false→V=false):=fun j hj h=>by rw [←hW,okL_no hj h]
 have HYY:Hid ((∀j,j<N→okAt false P.body j=true)→V=true):=fun h=>by rw [←hW,okL_yes h]
 go_wp2_with fail
 refine CN.mono ?_;clear CN hV hW;rintro e w3 ⟨rfl,rfl⟩;obtain ⟨W,hWW⟩:∃W,(w1.alloc (.cells #[.int .i64 P.kind,.int .i64 P.level,.int .i64 N,.slice (some ⟨bb,off,none⟩) 248 c] 127))=W:=⟨_,rfl⟩;have hsW:W.heap.size=w1.heap.size+1:=by rw [←hWW];exact heap_alloc_size _ _
 have hOW:W.heap[w1.heap.size]?=some (.cells #[.int .i64 P.kind,.int .i64 P.level,.int .i64 N,.slice (some ⟨bb,off,none⟩) 248 c] 127):=by rw [←hWW];exact heap_alloc_new _ _
 rw [hWW] at HR ⊢;have HBX:Hid (Below w.heap.size w W):=by rw [←hWW];exact HB.out.alloc HB.out.size _
 have HRW:Hid (Row W (some ⟨bb,off,none⟩) c P.body):=HR.out;have HP1:Hid (W.cell? ⟨w1.heap.size,1,none⟩=some (.int .i64 P.level)):=cell_obj hOW 1 _ rfl;have HP2:Hid (W.cell? ⟨w1.heap.size,2,none⟩=some (.int .i64 N)):=cell_obj hOW 2 _ rfl;have HP3:Hid (W.cell? ⟨w1.heap.size,3,none⟩=some (.slice (some ⟨bb,off,none⟩) 248 c)):=cell_obj hOW 3 _ rfl;have HSW:Hid (w1.heap.size<W.heap.size):=by show _<_;omega
 obtain ⟨PB,hPB⟩:∃PB,w1.heap.size=PB:=⟨_,rfl⟩;rw [hPB] at HP1 HP2 HP3 HSW ⊢;clear hWW hsW hOW HR hPB HB;go_wp2_with fail
 go_loopw [6,7] (fun ls i wr=>∃(k:Nat) (g:Option Addr) (c':Nat),k≤N∧ls=.slice g k c'∧i=.int .i64 k∧Hid (∀j,j<k→okAt false P.body j=true)∧Hid (OwnC 72 W.heap.size wr (.slice g k c') (rdL false P.body k))∧Hid (Below W.heap.size W wr)) (fun _ i _=>N-(intOf i).toNat)
 case atStart=>exact ⟨0,_,_,Nat.zero_le _,rfl,rfl,fun j hj=>by omega,ownC_nil _ _ _,Below.refl _ _⟩
 case round=>
  obtain ⟨k,g,c',hk,rfl,rfl,HJ,HO,HBR⟩:=hrel;have p1:=(HBR.out.cell (p:=⟨PB,1,none⟩) HSW.out).trans HP1.out;have p2:=(HBR.out.cell (p:=⟨PB,2,none⟩) HSW.out).trans HP2.out;have p3:=(HBR.out.cell (p:=⟨PB,3,none⟩) HSW.out).trans HP3.out;have HBWR:Hid (Below w.heap.size w wr):=HBX.out.trans (HBR.out.mono HBX.out.size);by_cases hlt:k<N
  ·clear p1;have hx:=HRW.out
   have HXR:Hid (Row wr (some ⟨bb,off+12*k,none⟩) (c-12*k) (P.body.drop (k*12))):=by
    have:=(HRW.out.below HBR.out).drop' (k*12) (by rw [hlen];omega);rw [Nat.mul_comm k 12] at this ⊢;exact this
   have HLX:Hid ((P.body.drop (k*12)).length=248-12*k):=by show _=_;rw [List.length_drop,hlen];omega
   have CG:=fun p n=>rnumber_any _ _ _ p n _ HXR.out
   rw [HLX.out] at CG;obtain ⟨q,hq⟩:∃q,cellAt false P.body k=q:=⟨_,rfl⟩;have HQW:Hid (wfC q):=by rw [←hq];exact rd_wf HXR.out.1
   have HQ:Hid (cellAt false P.body k=q):=hq;have CG0:Hid (Calls Tryz.prog 96 #[.slice (some ⟨bb,off+12*k,none⟩) (248-12*k) (c-12*k),.int .i64 0,.int .i64 4] wr fun e w'=>e=.returned (.int .i64 q.a)∧wr=w'):=by rw [←hq];exact CG 0 4
   have CG1:Hid (Calls Tryz.prog 96 #[.slice (some ⟨bb,off+12*k,none⟩) (248-12*k) (c-12*k),.int .i64 4,.int .i64 2] wr fun e w'=>e=.returned (.int .i64 q.b)∧wr=w'):=by rw [←hq];exact CG 4 2
   have CG2:Hid (Calls Tryz.prog 96 #[.slice (some ⟨bb,off+12*k,none⟩) (248-12*k) (c-12*k),.int .i64 6,.int .i64 2] wr fun e w'=>e=.returned (.int .i64 q.c)∧wr=w'):=by rw [←hq];exact CG 6 2
   have CG3:Hid (Calls Tryz.prog 96 #[.slice (some ⟨bb,off+12*k,none⟩) (248-12*k) (c-12*k),.int .i64 8,.int .i64 2] wr fun e w'=>e=.returned (.int .i64 q.d)∧wr=w'):=by rw [←hq];exact CG 8 2
   clear CG hx;have HM:Hid (∀w5 V5,okC false q=V5→Calls Tryz.prog 93 #[.agg #[.int .i64 q.a,.int .i64 q.b,.int .i64 q.c,.int .i64 q.d]] w5 fun e w'=>e=.returned (.bool V5)∧Below w5.heap.size w5 w'):=fun w5 V5 hV5=>mayP_v q HQW.out w5 V5 hV5
   have hnc:¬c=12*k:=by omega
   have hkl:12*k≤248:=by omega
   have hkc:12*k≤c:=by omega
   have HXC:Hid (∀i,i<248-12*k→wr.cell? ⟨bb,off+12*k+i,none⟩=some (.int .u8 ((P.body.drop (k*12)).getD i 0))):=fun i hi=>HXR.out.cells i (by rw [HLX.out];exact hi)
   have HV2:Hid (okAt false P.body k=(decide ((P.body.drop (k*12)).getD 10 0=0)&&decide ((P.body.drop (k*12)).getD 11 0=0)&&okC false q)):=by
    show _=_;unfold okAt okCell;rw [show szC false=12 from rfl,show ofC false 4=10 from rfl,nou2 (by rw [HLX.out];omega),show rdC false (P.body.drop (k*12))=q from HQ.out]
   obtain ⟨b10,e10⟩:∃b10,(P.body.drop (k*12)).getD 10 0=b10:=⟨_,rfl⟩;obtain ⟨b11,e11⟩:∃b11,(P.body.drop (k*12)).getD 11 0=b11:=⟨_,rfl⟩;rw [e10,e11] at HV2;have HC10:Hid (wr.cell? ⟨bb,off+12*k+10,none⟩=some (.int .u8 b10)):=by rw [←e10];exact HXC.out 10 (by omega)
   have HC11:Hid (wr.cell? ⟨bb,off+12*k+11,none⟩=some (.int .u8 b11)):=by rw [←e11];exact HXC.out 11 (by omega)
   have HBB:Hid (bb<wr.heap.size):=block_lt_of_cell HC10.out;clear hq e10 e11;go_wp2_with fail
   refine (CG0.out).mono ?_;clear CG0;rintro e wx ⟨rfl,rfl⟩;go_wp2_with fail
   refine (CG1.out).mono ?_;clear CG1;rintro e wx ⟨rfl,rfl⟩;go_wp2_with fail
   refine (CG2.out).mono ?_;clear CG2;rintro e wx ⟨rfl,rfl⟩;go_wp2_with fail
   refine (CG3.out).mono ?_;clear CG3;rintro e wx ⟨rfl,rfl⟩;go_wp2_with fail
   cases hv:okC false q
   ·have HM':Hid _:=fun w5=>HM.out w5 _ hv
    have ev:=HN.out k hlt (by rw [HV2.out,hv,Bool.and_false]);subst ev;clear hv HM;refine (HM'.out _).mono ?_;rintro e w6 ⟨rfl,hb6⟩;have HB5:Hid (Below wr.heap.size wr w6):=((Below.refl _ wr).alloc (Nat.le_refl _) _).trans (hb6.mono (by rw [heap_alloc_size];omega));have HBW6:Hid (Below W.heap.size W w6):=HBR.out.trans (HB5.out.mono HBR.out.size);have HB6:Hid (Below w.heap.size w w6):=HBX.out.trans (HBW6.out.mono HBX.out.size);obtain ⟨z0,z1,z2,z3⟩:=(at4_new wr q 72).below hb6;clear hb6;clear z0 z1 z2 z3;go_wp2;go_ret2
    exact ⟨_,_,_,rfl,rfl,ownC_nil _ _ _,HB6.out⟩
   ·have HM':Hid _:=fun w5=>HM.out w5 _ hv
    rw [hv,Bool.and_true] at HV2;clear hv HM;refine (HM'.out _).mono ?_;rintro e w6 ⟨rfl,hb6⟩;have HB5:Hid (Below wr.heap.size wr w6):=((Below.refl _ wr).alloc (Nat.le_refl _) _).trans (hb6.mono (by rw [heap_alloc_size];omega));have HBW6:Hid (Below W.heap.size W w6):=HBR.out.trans (HB5.out.mono HBR.out.size);have HB6:Hid (Below w.heap.size w w6):=HBX.out.trans (HBW6.out.mono HBX.out.size);obtain ⟨z0,z1,z2,z3⟩:=(at4_new wr q 72).below hb6;clear hb6;have x10:=(HB5.out.cell (p:=⟨bb,off+12*k+10,none⟩) HBB.out).trans HC10.out;have x11:=(HB5.out.cell (p:=⟨bb,off+12*k+11,none⟩) HBB.out).trans HC11.out;by_cases h10:b10=0
    ·by_cases h11:b11=0
     ·have HJ4:Hid (∀j,j<k+1→okAt false P.body j=true):=fun j hj=>by
       by_cases ej:j=k
       ·rw [ej,HV2.out,h10,h11];rfl
       ·exact HJ.out j (by omega)
      subst h10;subst h11;have HQ4:Hid (rdL false P.body k++[q]=rdL false P.body (k+1)):=by show _=_;rw [rdL_succ,HQ.out]
      have HO6:Hid (OwnC 72 W.heap.size w6 (.slice g k c') (rdL false P.body k)):=HO.out.below' HB5.out;clear HO;go_wp2_with (at_builtin;have _t:=HO6;refine append_c4n 29 72 Tryz.underlying29 infoP rfl _ _ rfl W.heap.size _ (rdL false P.body k) rfl (HO6.out.below' ((Below.refl _ _).alloc (Nat.le_refl _) _)) q w6.heap.size rfl (at4_new w6 q _) (by rw [rdL_len];omega) (Nat.le_trans HBW6.out.size (by rw [heap_alloc_size];omega)) k (rdL_len _ _ _) _ HQ4.out ?_;intro b7 c7 w7 ho7 hb7;have HO7:Hid (OwnC 72 W.heap.size w7 (.slice b7 (k+1) c7) (rdL false P.body (k+1))):=ho7;have HB7:Hid (Below W.heap.size W w7):=(HBW6.out.alloc HBW6.out.size _).trans hb7;clear _t ho7 hb7 HO6)
      go_roundw
      case rel=>exact ⟨k+1,b7,c7,by omega,rfl,by go_num,HJ4.out,HO7.out,HB7.out⟩
      case measure=>simp [intOf];omega
     ·have ev:=HN.out k hlt (by rw [HV2.out,decide_eq_false h11,Bool.and_false]);subst ev;have h11b:(b11 !=0)=true:=by simpa using h11
      subst h10;clear h11;clear z0 z1 z2 z3;go_wp2;go_ret2
      exact ⟨_,_,_,rfl,rfl,ownC_nil _ _ _,HB6.out⟩
    ·have ev:=HN.out k hlt (by rw [HV2.out,decide_eq_false h10,Bool.false_and]);subst ev;have h10b:(b10 !=0)=true:=by simpa using h10
     clear h10;clear z0 z1 z2 z3;go_wp2;go_ret2
     exact ⟨_,_,_,rfl,rfl,ownC_nil _ _ _,HB6.out⟩
  ·have hkn:k=N:=by omega
   subst hkn;have ev:=HYY.out HJ.out;subst ev;have HO3:Hid (OwnC 72 w.heap.size wr (.slice g k c') (rdL false P.body k)):=HO.out.weaken HBX.out.size;clear HN HYY HJ HO;go_wp2;go_ret2
   exact ⟨_,_,_,rfl,rfl,HO3.out,HBWR.out⟩
theorem rpieces_v (a:Option Addr) (cap n:Nat) (zs:List Int) (w:World) (h:Row w a cap zs) (hn:zs.length=n) (E:Int) (hE:reE false zs=E) (L:List C4) (hL:reL false zs=L) (m:Nat) (hm:L.length=m):
  Calls Tryz.prog 98 #[.slice a n cap] w fun e w'=>∃g c,e=.returned (.tuple #[.slice g m c,.int .i64 E])∧OwnC 72 w.heap.size w' (.slice g m c) L∧Below w.heap.size w w':=by
 subst hE hL hm;have C:=ropen_v a cap n zs w h hn _ rfl _ rfl
 have bad:reB false (opP zs)=false→opE zs=0→Calls Tryz.prog 98 #[.slice a n cap] w (fun e w'=>e=.returned (.tuple #[.slice none 0 0,.int .i64 4])∧Below w.heap.size w w')→Calls Tryz.prog 98 #[.slice a n cap] w fun e w'=>∃g c,e=.returned (.tuple #[.slice g (reL false zs).length c,.int .i64 (reE false zs)])∧OwnC 72 w.heap.size w' (.slice g (reL false zs).length c) (reL false zs)∧Below w.heap.size w w':=fun hb ho hc=>by
  obtain ⟨e1,e2,e3⟩:=re_bad (t:=false) ho hb;rw [e1,e2];refine hc.mono ?_;rintro e w' ⟨rfl,hb⟩;exact ⟨none,0,rfl,ownC_nil _ _ _,hb⟩
 have badB:¬((opP zs).kind=3∧(0≤(opP zs).level∧(opP zs).level≤0)∧(1≤(opP zs).count∧(opP zs).count≤20))→reB false (opP zs)=false:=fun hh=>by
  unfold reB;rw [opB_no (s:=shtT false) hh];rfl
 by_cases ho:opE zs=0
 ·obtain ⟨_,_,hbys,hlen⟩:=seal_open h.1 ho;by_cases h1:(opP zs).kind=3;rotate_left
  ·exact bad (badB (by omega)) ho (rpiece_kind a cap n w _ _ C ho (by simpa using h1))
  by_cases g0:(opP zs).level=0;rotate_left
  ·exact bad (badB (by omega)) ho (rpiece_lv0 a cap n w _ _ C ho (by simpa using h1) (by simpa using g0))
  by_cases h3:1≤(opP zs).count;rotate_left
  ·exact bad (badB (by omega)) ho (rpiece_least a cap n w _ _ C ho (by simpa using h1) (by simpa using g0) (by omega))
  by_cases h4:(opP zs).count≤20;rotate_left
  ·exact bad (badB (by omega)) ho (rpiece_most a cap n w _ _ C ho (by simpa using h1) (by simpa using g0) h3 (by omega))
  obtain ⟨k,hk⟩:=Int.eq_ofNat_of_zero_le (show 0≤(opP zs).count by omega)
  have hB:opB (shtT false) (opP zs)=true:=by
   unfold opB;rw [Bool.and_eq_true,takes_iff];refine ⟨decide_eq_true h1,⟨?_,?_⟩,h3,h4⟩
   ·show (0:Int)≤(opP zs).level;omega
   ·show (opP zs).level≤0;omega
  cases hv:nouB ((opP zs).body.drop (k*12))
  ·exact bad (by unfold reB;rw [hk,Int.toNat_natCast,show szC false=12 from rfl,hv,Bool.and_false,Bool.and_false]) ho (rpiece_nou a cap n w _ _ C ho (by simpa using h1) (by simpa using g0) k hk (by omega) (by omega) hlen hbys hv)
  have:=rpiece_got a cap n w _ _ C ho (by simpa using h1) (by simpa using g0) k hk (by omega) (by omega) hlen hbys hv _ rfl;cases hw:okL false (opP zs).body k
  ·obtain ⟨e1,e2,e3⟩:=re_bad (t:=false) ho (by unfold reB;rw [hk,Int.toNat_natCast,show szC false=12 from rfl,hw,Bool.false_and,Bool.and_false]);rw [hw] at this;rw [e1,e2];refine this.mono ?_;rintro e w' ⟨g,m,c,rfl,hm,ho',hb⟩;have hm0:m=0:=hm;subst hm0;exact ⟨g,c,rfl,ho',hb⟩
  ·obtain ⟨e1,e2,e3⟩:=re_good (t:=false) ho (by unfold reB;rw [hk,Int.toNat_natCast,show szC false=12 from rfl,hw,hv,Bool.and_true,Bool.and_true];exact hB);rw [hw] at this;rw [e1,e2,hk,Int.toNat_natCast,rdL_len];refine this.mono ?_;rintro e w' ⟨g,m,c,rfl,hm,ho',hb⟩;have hm0:m=k:=hm;subst hm0;exact ⟨g,c,rfl,ho',hb⟩
 ·have:=rpiece_err a cap n w _ _ C (by simpa using ho);have e1:reE false zs=opE zs:=by unfold reE;rw [if_neg ho]
  have e2:reL false zs=[]:=by unfold reL;rw [e1,if_neg ho]
  have e3:reV false zs=0:=by unfold reV;rw [e1,if_neg ho]
  rw [e1,e2];refine this.mono ?_;rintro e w' ⟨rfl,hb⟩;exact ⟨none,0,rfl,ownC_nil _ _ _,hb⟩
set_option maxRecDepth 20000 in
theorem rkid_err (a:Option Addr) (cap n:Nat) (w:World) (P:Pg) (E:Int)
  (C:Calls Tryz.prog 95 #[.slice a n cap] w fun e w'=>∃g c,e=.returned (.tuple #[pgV P g c,.int .i64 E])∧Own w.heap.size w' (.slice g P.body.length c) P.body∧Below w.heap.size w w') (hE:(E !=0)=true):
  Calls Tryz.prog 72 #[.slice a n cap] w fun e w'=>e=.returned (.tuple #[.int .i64 0,.slice none 0 0,.int .i64 E])∧Below w.heap.size w w':=by
 dsimp only [pgV] at C;have HC:Hid _:=C;clear C;go_enter Tryz.func72,Tryz.ntmps72
 go_wp2_with fail
 refine (Calls.mono HC.out) ?_;rintro e w1 ⟨g,c,rfl,ho,hb⟩;have HB:Hid (Below w.heap.size w w1):=hb;clear hb ho HC;go_wp2;refine bodyPost_ret (v:=.tuple #[.int .i64 0,.slice none 0 0,.int .i64 E]) ?_ rfl ⟨rfl,HB.out.alloc HB.out.size _⟩;simp [results,Tryz.results72,go_sem]
set_option maxRecDepth 20000 in
theorem rkid_kind (a:Option Addr) (cap n:Nat) (w:World) (P:Pg) (E:Int)
  (C:Calls Tryz.prog 95 #[.slice a n cap] w fun e w'=>∃g c,e=.returned (.tuple #[pgV P g c,.int .i64 E])∧Own w.heap.size w' (.slice g P.body.length c) P.body∧Below w.heap.size w w') (hE:E=0) (h1:(P.kind !=2)=true):
  Calls Tryz.prog 72 #[.slice a n cap] w fun e w'=>e=.returned (.tuple #[.int .i64 0,.slice none 0 0,.int .i64 4])∧Below w.heap.size w w':=by
 subst hE;dsimp only [pgV] at C;have HC:Hid _:=C;clear C;go_enter Tryz.func72,Tryz.ntmps72
 go_wp2_with fail
 refine (Calls.mono HC.out) ?_;rintro e w1 ⟨g,c,rfl,ho,hb⟩;have HB:Hid (Below w.heap.size w w1):=hb;clear hb ho HC;go_wp2;refine bodyPost_ret (v:=.tuple #[.int .i64 0,.slice none 0 0,.int .i64 4]) ?_ rfl ⟨rfl,HB.out.alloc HB.out.size _⟩;simp [results,Tryz.results72,go_sem]
set_option maxRecDepth 20000 in
theorem rkid_lv0 (a:Option Addr) (cap n:Nat) (w:World) (P:Pg) (E:Int)
  (C:Calls Tryz.prog 95 #[.slice a n cap] w fun e w'=>∃g c,e=.returned (.tuple #[pgV P g c,.int .i64 E])∧Own w.heap.size w' (.slice g P.body.length c) P.body∧Below w.heap.size w w') (hE:E=0) (h1:(P.kind !=2)=false) (h2:P.level<1):
  Calls Tryz.prog 72 #[.slice a n cap] w fun e w'=>e=.returned (.tuple #[.int .i64 0,.slice none 0 0,.int .i64 4])∧Below w.heap.size w w':=by
 subst hE;dsimp only [pgV] at C;have HC:Hid _:=C;clear C;go_enter Tryz.func72,Tryz.ntmps72
 go_wp2_with fail
 refine (Calls.mono HC.out) ?_;rintro e w1 ⟨g,c,rfl,ho,hb⟩;have HB:Hid (Below w.heap.size w w1):=hb;clear hb ho HC;go_wp2;refine bodyPost_ret (v:=.tuple #[.int .i64 0,.slice none 0 0,.int .i64 4]) ?_ rfl ⟨rfl,HB.out.alloc HB.out.size _⟩;simp [results,Tryz.results72,go_sem]
set_option maxRecDepth 20000 in
theorem rkid_lv1 (a:Option Addr) (cap n:Nat) (w:World) (P:Pg) (E:Int)
  (C:Calls Tryz.prog 95 #[.slice a n cap] w fun e w'=>∃g c,e=.returned (.tuple #[pgV P g c,.int .i64 E])∧Own w.heap.size w' (.slice g P.body.length c) P.body∧Below w.heap.size w w') (hE:E=0) (h1:(P.kind !=2)=false) (h2:1≤P.level) (h2b:32<P.level):
  Calls Tryz.prog 72 #[.slice a n cap] w fun e w'=>e=.returned (.tuple #[.int .i64 0,.slice none 0 0,.int .i64 4])∧Below w.heap.size w w':=by
 subst hE;dsimp only [pgV] at C;have HC:Hid _:=C;clear C;go_enter Tryz.func72,Tryz.ntmps72
 go_wp2_with fail
 refine (Calls.mono HC.out) ?_;rintro e w1 ⟨g,c,rfl,ho,hb⟩;have HB:Hid (Below w.heap.size w w1):=hb;clear hb ho HC;go_wp2;refine bodyPost_ret (v:=.tuple #[.int .i64 0,.slice none 0 0,.int .i64 4]) ?_ rfl ⟨rfl,HB.out.alloc HB.out.size _⟩;simp [results,Tryz.results72,go_sem]
set_option maxRecDepth 20000 in
theorem rkid_least (a:Option Addr) (cap n:Nat) (w:World) (P:Pg) (E:Int)
  (C:Calls Tryz.prog 95 #[.slice a n cap] w fun e w'=>∃g c,e=.returned (.tuple #[pgV P g c,.int .i64 E])∧Own w.heap.size w' (.slice g P.body.length c) P.body∧Below w.heap.size w w') (hE:E=0) (h1:(P.kind !=2)=false) (h2:1≤P.level) (h2b:P.level≤32) (h3:P.count<1):
  Calls Tryz.prog 72 #[.slice a n cap] w fun e w'=>e=.returned (.tuple #[.int .i64 0,.slice none 0 0,.int .i64 4])∧Below w.heap.size w w':=by
 subst hE;dsimp only [pgV] at C;have HC:Hid _:=C;clear C;go_enter Tryz.func72,Tryz.ntmps72
 go_wp2_with fail
 refine (Calls.mono HC.out) ?_;rintro e w1 ⟨g,c,rfl,ho,hb⟩;have HB:Hid (Below w.heap.size w w1):=hb;clear hb ho HC;go_wp2;refine bodyPost_ret (v:=.tuple #[.int .i64 0,.slice none 0 0,.int .i64 4]) ?_ rfl ⟨rfl,HB.out.alloc HB.out.size _⟩;simp [results,Tryz.results72,go_sem]
set_option maxRecDepth 20000 in
theorem rkid_most (a:Option Addr) (cap n:Nat) (w:World) (P:Pg) (E:Int)
  (C:Calls Tryz.prog 95 #[.slice a n cap] w fun e w'=>∃g c,e=.returned (.tuple #[pgV P g c,.int .i64 E])∧Own w.heap.size w' (.slice g P.body.length c) P.body∧Below w.heap.size w w') (hE:E=0) (h1:(P.kind !=2)=false) (h2:1≤P.level) (h2b:P.level≤32) (h3:1≤P.count) (h4:12<P.count):
  Calls Tryz.prog 72 #[.slice a n cap] w fun e w'=>e=.returned (.tuple #[.int .i64 0,.slice none 0 0,.int .i64 4])∧Below w.heap.size w w':=by
 subst hE;dsimp only [pgV] at C;have HC:Hid _:=C;clear C;go_enter Tryz.func72,Tryz.ntmps72
 go_wp2_with fail
 refine (Calls.mono HC.out) ?_;rintro e w1 ⟨g,c,rfl,ho,hb⟩;have HB:Hid (Below w.heap.size w w1):=hb;clear hb ho HC;go_wp2;refine bodyPost_ret (v:=.tuple #[.int .i64 0,.slice none 0 0,.int .i64 4]) ?_ rfl ⟨rfl,HB.out.alloc HB.out.size _⟩;simp [results,Tryz.results72,go_sem]
set_option maxRecDepth 20000 in
theorem rkid_nou (a:Option Addr) (cap n:Nat) (w:World) (P:Pg) (E:Int)
  (C:Calls Tryz.prog 95 #[.slice a n cap] w fun e w'=>∃g c,e=.returned (.tuple #[pgV P g c,.int .i64 E])∧Own w.heap.size w' (.slice g P.body.length c) P.body∧Below w.heap.size w w') (hE:E=0) (h1:(P.kind !=2)=false) (h2:1≤P.level) (h2b:P.level≤32) (N:Nat) (hk:P.count=N) (hk1:1≤N) (hk2:N≤12) (hlen:P.body.length=248) (hbys:Bys P.body) (hV:nouB (P.body.drop (N*20))=false):
  Calls Tryz.prog 72 #[.slice a n cap] w fun e w'=>e=.returned (.tuple #[.int .i64 0,.slice none 0 0,.int .i64 4])∧Below w.heap.size w w':=by
 subst hE;dsimp only [pgV] at C;rw [hlen,hk] at C;have HC:Hid _:=C;clear C hk;go_enter Tryz.func72,Tryz.ntmps72
 go_wp2_with fail
 refine (Calls.mono HC.out) ?_;rintro e w1 ⟨g,c,rfl,ho,hb⟩;have HB:Hid (Below w.heap.size w w1):=hb;have HR:Hid (Row (w1.alloc (.cells #[.int .i64 P.kind,.int .i64 P.level,.int .i64 N,.slice g 248 c] 127)) g c P.body):=(ho.row' hbys).2.below ((Below.refl _ _).alloc (Nat.le_refl _) _);clear hb ho HC;obtain ⟨bb,off,hg⟩:=HR.out.some' (by omega);subst hg;have hcap:=HR.out.2.1;have hmx:=HR.out.2.2.1;unfold maxLen at hmx;rw [hlen] at hcap
 have CN:Calls Tryz.prog 97 #[.slice (some ⟨bb,off,none⟩) 248 c,.int .i64 (20*(N:Int))] (w1.alloc (.cells #[.int .i64 P.kind,.int .i64 P.level,.int .i64 N,.slice (some ⟨bb,off,none⟩) 248 c] 127)) fun e w'=>e=.returned (.bool false)∧(w1.alloc (.cells #[.int .i64 P.kind,.int .i64 P.level,.int .i64 N,.slice (some ⟨bb,off,none⟩) 248 c] 127))=w':=by
  have:=rnoughts_v _ _ _ 248 (N*20) _ _ HR.out hlen (by omega) false hV;rw [show ((N*20:Nat):Int)=20*(N:Int) by omega] at this;exact this
 go_wp2_with fail
 refine CN.mono ?_;clear CN;rintro e w3 ⟨rfl,rfl⟩;go_wp2;refine bodyPost_ret (v:=.tuple #[.int .i64 0,.slice none 0 0,.int .i64 4]) ?_ rfl ⟨rfl,HB.out.alloc HB.out.size _⟩;simp [results,Tryz.results72,go_sem]
set_option maxRecDepth 20000 in
theorem rkid_got (a:Option Addr) (cap n:Nat) (w:World) (P:Pg) (E:Int)
  (C:Calls Tryz.prog 95 #[.slice a n cap] w fun e w'=>∃g c,e=.returned (.tuple #[pgV P g c,.int .i64 E])∧Own w.heap.size w' (.slice g P.body.length c) P.body∧Below w.heap.size w w') (hE:E=0) (h1:(P.kind !=2)=false) (h2:1≤P.level) (h2b:P.level≤32) (N:Nat) (hk:P.count=N) (hk1:1≤N) (hk2:N≤12) (hlen:P.body.length=248) (hbys:Bys P.body) (hV:nouB (P.body.drop (N*20))=true) (V:Bool) (hW:okL true P.body N=V):
  Calls Tryz.prog 72 #[.slice a n cap] w fun e w'=>∃g m c,e=.returned (.tuple #[.int .i64 (if V then P.level else 0),.slice g m c,.int .i64 (if V then 0 else 4)])∧m=(if V then N else 0)∧OwnC 130 w.heap.size w' (.slice g m c) (if V then rdL true P.body N else [])∧Below w.heap.size w w':=by
 subst hE;dsimp only [pgV] at C;rw [hlen,hk] at C;have HC:Hid _:=C;clear C hk;go_enter Tryz.func72,Tryz.ntmps72
 go_wp2_with fail
 refine (Calls.mono HC.out) ?_;rintro e w1 ⟨g,c,rfl,ho,hb⟩;have HB:Hid (Below w.heap.size w w1):=hb;have HR:Hid (Row (w1.alloc (.cells #[.int .i64 P.kind,.int .i64 P.level,.int .i64 N,.slice g 248 c] 127)) g c P.body):=(ho.row' hbys).2.below ((Below.refl _ _).alloc (Nat.le_refl _) _);clear hb ho HC;obtain ⟨bb,off,hg⟩:=HR.out.some' (by omega);subst hg;have hcap:=HR.out.2.1;have hmx:=HR.out.2.2.1;unfold maxLen at hmx;rw [hlen] at hcap
 have CN:Calls Tryz.prog 97 #[.slice (some ⟨bb,off,none⟩) 248 c,.int .i64 (20*(N:Int))] (w1.alloc (.cells #[.int .i64 P.kind,.int .i64 P.level,.int .i64 N,.slice (some ⟨bb,off,none⟩) 248 c] 127)) fun e w'=>e=.returned (.bool true)∧(w1.alloc (.cells #[.int .i64 P.kind,.int .i64 P.level,.int .i64 N,.slice (some ⟨bb,off,none⟩) 248 c] 127))=w':=by
  have:=rnoughts_v _ _ _ 248 (N*20) _ _ HR.out hlen (by omega) true hV;rw [show ((N*20:Nat):Int)=20*(N:Int) by omega] at this;exact this
 have HN:Hid (∀j,j<N→okAt true P.body j=false→V=false):=fun j hj h=>by rw [←hW,okL_no hj h]
 have HYY:Hid ((∀j,j<N→okAt true P.body j=true)→V=true):=fun h=>by rw [←hW,okL_yes h]
 go_wp2_with fail
 refine CN.mono ?_;clear CN hV hW;rintro e w3 ⟨rfl,rfl⟩;obtain ⟨W,hWW⟩:∃W,(w1.alloc (.cells #[.int .i64 P.kind,.int .i64 P.level,.int .i64 N,.slice (some ⟨bb,off,none⟩) 248 c] 127))=W:=⟨_,rfl⟩;have hsW:W.heap.size=w1.heap.size+1:=by rw [←hWW];exact heap_alloc_size _ _
 have hOW:W.heap[w1.heap.size]?=some (.cells #[.int .i64 P.kind,.int .i64 P.level,.int .i64 N,.slice (some ⟨bb,off,none⟩) 248 c] 127):=by rw [←hWW];exact heap_alloc_new _ _
 rw [hWW] at HR ⊢;have HBX:Hid (Below w.heap.size w W):=by rw [←hWW];exact HB.out.alloc HB.out.size _
 have HRW:Hid (Row W (some ⟨bb,off,none⟩) c P.body):=HR.out;have HP1:Hid (W.cell? ⟨w1.heap.size,1,none⟩=some (.int .i64 P.level)):=cell_obj hOW 1 _ rfl;have HP2:Hid (W.cell? ⟨w1.heap.size,2,none⟩=some (.int .i64 N)):=cell_obj hOW 2 _ rfl;have HP3:Hid (W.cell? ⟨w1.heap.size,3,none⟩=some (.slice (some ⟨bb,off,none⟩) 248 c)):=cell_obj hOW 3 _ rfl;have HSW:Hid (w1.heap.size<W.heap.size):=by show _<_;omega
 obtain ⟨PB,hPB⟩:∃PB,w1.heap.size=PB:=⟨_,rfl⟩;rw [hPB] at HP1 HP2 HP3 HSW ⊢;clear hWW hsW hOW HR hPB HB;go_wp2_with fail
 go_loopw [7,8] (fun ls i wr=>∃(k:Nat) (g:Option Addr) (c':Nat),k≤N∧ls=.slice g k c'∧i=.int .i64 k∧Hid (∀j,j<k→okAt true P.body j=true)∧Hid (OwnC 130 W.heap.size wr (.slice g k c') (rdL true P.body k))∧Hid (Below W.heap.size W wr)) (fun _ i _=>N-(intOf i).toNat)
 case atStart=>exact ⟨0,_,_,Nat.zero_le _,rfl,rfl,fun j hj=>by omega,ownC_nil _ _ _,Below.refl _ _⟩
 case round=>
  obtain ⟨k,g,c',hk,rfl,rfl,HJ,HO,HBR⟩:=hrel;have p1:=(HBR.out.cell (p:=⟨PB,1,none⟩) HSW.out).trans HP1.out;have p2:=(HBR.out.cell (p:=⟨PB,2,none⟩) HSW.out).trans HP2.out;have p3:=(HBR.out.cell (p:=⟨PB,3,none⟩) HSW.out).trans HP3.out;have HBWR:Hid (Below w.heap.size w wr):=HBX.out.trans (HBR.out.mono HBX.out.size);by_cases hlt:k<N
  ·clear p1;have hx:=HRW.out
   have HXR:Hid (Row wr (some ⟨bb,off+20*k,none⟩) (c-20*k) (P.body.drop (k*20))):=by
    have:=(HRW.out.below HBR.out).drop' (k*20) (by rw [hlen];omega);rw [Nat.mul_comm k 20] at this ⊢;exact this
   have HLX:Hid ((P.body.drop (k*20)).length=248-20*k):=by show _=_;rw [List.length_drop,hlen];omega
   have CG:=fun p n=>rnumber_any _ _ _ p n _ HXR.out
   rw [HLX.out] at CG;obtain ⟨q,hq⟩:∃q,cellAt true P.body k=q:=⟨_,rfl⟩;have HQW:Hid (wfC q):=by rw [←hq];exact rd_wf HXR.out.1
   have HQ:Hid (cellAt true P.body k=q):=hq;have CG0:Hid (Calls Tryz.prog 96 #[.slice (some ⟨bb,off+20*k,none⟩) (248-20*k) (c-20*k),.int .i64 0,.int .i64 4] wr fun e w'=>e=.returned (.int .i64 q.a)∧wr=w'):=by rw [←hq];exact CG 0 4
   have CG1:Hid (Calls Tryz.prog 96 #[.slice (some ⟨bb,off+20*k,none⟩) (248-20*k) (c-20*k),.int .i64 4,.int .i64 4] wr fun e w'=>e=.returned (.int .i64 q.b)∧wr=w'):=by rw [←hq];exact CG 4 4
   have CG2:Hid (Calls Tryz.prog 96 #[.slice (some ⟨bb,off+20*k,none⟩) (248-20*k) (c-20*k),.int .i64 8,.int .i64 8] wr fun e w'=>e=.returned (.int .i64 q.c)∧wr=w'):=by rw [←hq];exact CG 8 8
   have CG3:Hid (Calls Tryz.prog 96 #[.slice (some ⟨bb,off+20*k,none⟩) (248-20*k) (c-20*k),.int .i64 16,.int .i64 4] wr fun e w'=>e=.returned (.int .i64 q.d)∧wr=w'):=by rw [←hq];exact CG 16 4
   clear CG hx;have HM:Hid (∀w5 V5,okC true q=V5→Calls Tryz.prog 94 #[.agg #[.int .i64 q.a,.int .i64 q.b,.int .i64 q.c,.int .i64 q.d]] w5 fun e w'=>e=.returned (.bool V5)∧Below w5.heap.size w5 w'):=fun w5 V5 hV5=>mayK_v q HQW.out w5 V5 hV5
   have hnc:¬c=20*k:=by omega
   have hkl:20*k≤248:=by omega
   have hkc:20*k≤c:=by omega
   have HV2:Hid (okAt true P.body k=okC true q):=by
    show _=_;unfold okAt okCell;rw [show szC true=20 from rfl,show ofC true 4=20 from rfl,List.drop_of_length_le (by rw [List.length_take];omega),show rdC true (P.body.drop (k*20))=q from HQ.out];rfl
   clear hq;go_wp2_with fail
   refine (CG0.out).mono ?_;clear CG0;rintro e wx ⟨rfl,rfl⟩;go_wp2_with fail
   refine (CG1.out).mono ?_;clear CG1;rintro e wx ⟨rfl,rfl⟩;go_wp2_with fail
   refine (CG2.out).mono ?_;clear CG2;rintro e wx ⟨rfl,rfl⟩;go_wp2_with fail
   refine (CG3.out).mono ?_;clear CG3;rintro e wx ⟨rfl,rfl⟩;go_wp2_with fail
   cases hv:okC true q
   ·have HM':Hid _:=fun w5=>HM.out w5 _ hv
    have ev:=HN.out k hlt (by rw [HV2.out,hv]);subst ev;clear hv HM;refine (HM'.out _).mono ?_;rintro e w6 ⟨rfl,hb6⟩;have HB5:Hid (Below wr.heap.size wr w6):=((Below.refl _ wr).alloc (Nat.le_refl _) _).trans (hb6.mono (by rw [heap_alloc_size];omega));have HBW6:Hid (Below W.heap.size W w6):=HBR.out.trans (HB5.out.mono HBR.out.size);have HB6:Hid (Below w.heap.size w w6):=HBX.out.trans (HBW6.out.mono HBX.out.size);obtain ⟨z0,z1,z2,z3⟩:=(at4_new wr q 130).below hb6;clear hb6;clear z0 z1 z2 z3;go_wp2;refine bodyPost_ret (v:=.tuple #[.int .i64 0,.slice none 0 0,.int .i64 4]) ?_ rfl ⟨none,0,0,rfl,rfl,ownC_nil _ _ _,HB6.out⟩;simp [results,Tryz.results72,go_sem]
   ·have HM':Hid _:=fun w5=>HM.out w5 _ hv
    have HJ4:Hid (∀j,j<k+1→okAt true P.body j=true):=fun j hj=>by
     by_cases ej:j=k
     ·rw [ej,HV2.out,hv]
     ·exact HJ.out j (by omega)
    clear hv HM;refine (HM'.out _).mono ?_;rintro e w6 ⟨rfl,hb6⟩;have HB5:Hid (Below wr.heap.size wr w6):=((Below.refl _ wr).alloc (Nat.le_refl _) _).trans (hb6.mono (by rw [heap_alloc_size];omega));have HBW6:Hid (Below W.heap.size W w6):=HBR.out.trans (HB5.out.mono HBR.out.size);have HB6:Hid (Below w.heap.size w w6):=HBX.out.trans (HBW6.out.mono HBX.out.size);obtain ⟨z0,z1,z2,z3⟩:=(at4_new wr q 130).below hb6;clear hb6;have HQ4:Hid (rdL true P.body k++[q]=rdL true P.body (k+1)):=by show _=_;rw [rdL_succ,HQ.out]
    have HO6:Hid (OwnC 130 W.heap.size w6 (.slice g k c') (rdL true P.body k)):=HO.out.below' HB5.out;clear HO;go_wp2_with (at_builtin;have _t:=HO6;refine append_c4n 128 130 Tryz.underlying128 infoK rfl _ _ rfl W.heap.size _ (rdL true P.body k) rfl (HO6.out.below' ((Below.refl _ _).alloc (Nat.le_refl _) _)) q w6.heap.size rfl (at4_new w6 q _) (by rw [rdL_len];omega) (Nat.le_trans HBW6.out.size (by rw [heap_alloc_size];omega)) k (rdL_len _ _ _) _ HQ4.out ?_;intro b7 c7 w7 ho7 hb7;have HO7:Hid (OwnC 130 W.heap.size w7 (.slice b7 (k+1) c7) (rdL true P.body (k+1))):=ho7;have HB7:Hid (Below W.heap.size W w7):=(HBW6.out.alloc HBW6.out.size _).trans hb7;clear _t ho7 hb7 HO6)
    go_roundw
    case rel=>exact ⟨k+1,b7,c7,by omega,rfl,by go_num,HJ4.out,HO7.out,HB7.out⟩
    case measure=>simp [intOf];omega
  ·have hkn:k=N:=by omega
   subst hkn;have ev:=HYY.out HJ.out;subst ev;have HO3:Hid (OwnC 130 w.heap.size wr (.slice g k c') (rdL true P.body k)):=HO.out.weaken HBX.out.size;clear HN HYY HJ HO;go_wp2;refine bodyPost_ret (v:=.tuple #[.int .i64 P.level,(.slice g k c'),.int .i64 0]) ?_ rfl ⟨g,k,c',rfl,rfl,HO3.out,HBWR.out⟩;simp [results,Tryz.results72,go_sem]
theorem rkids_v (a:Option Addr) (cap n:Nat) (zs:List Int) (w:World) (h:Row w a cap zs) (hn:zs.length=n) (E:Int) (hE:reE true zs=E) (L:List C4) (hL:reL true zs=L) (m:Nat) (hm:L.length=m) (lv:Int) (hlv:reV true zs=lv):
  Calls Tryz.prog 72 #[.slice a n cap] w fun e w'=>∃g c,e=.returned (.tuple #[.int .i64 lv,.slice g m c,.int .i64 E])∧OwnC 130 w.heap.size w' (.slice g m c) L∧Below w.heap.size w w':=by
 subst hE hL hm hlv;have C:=ropen_v a cap n zs w h hn _ rfl _ rfl
 have bad:reB true (opP zs)=false→opE zs=0→Calls Tryz.prog 72 #[.slice a n cap] w (fun e w'=>e=.returned (.tuple #[.int .i64 0,.slice none 0 0,.int .i64 4])∧Below w.heap.size w w')→Calls Tryz.prog 72 #[.slice a n cap] w fun e w'=>∃g c,e=.returned (.tuple #[.int .i64 (reV true zs),.slice g (reL true zs).length c,.int .i64 (reE true zs)])∧OwnC 130 w.heap.size w' (.slice g (reL true zs).length c) (reL true zs)∧Below w.heap.size w w':=fun hb ho hc=>by
  obtain ⟨e1,e2,e3⟩:=re_bad (t:=true) ho hb;rw [e1,e2,e3];refine hc.mono ?_;rintro e w' ⟨rfl,hb⟩;exact ⟨none,0,rfl,ownC_nil _ _ _,hb⟩
 have badB:¬((opP zs).kind=2∧(1≤(opP zs).level∧(opP zs).level≤32)∧(1≤(opP zs).count∧(opP zs).count≤12))→reB true (opP zs)=false:=fun hh=>by
  unfold reB;rw [opB_no (s:=shtT true) hh];rfl
 by_cases ho:opE zs=0
 ·obtain ⟨_,_,hbys,hlen⟩:=seal_open h.1 ho;by_cases h1:(opP zs).kind=2;rotate_left
  ·exact bad (badB (by omega)) ho (rkid_kind a cap n w _ _ C ho (by simpa using h1))
  by_cases g0:1≤(opP zs).level;rotate_left
  ·exact bad (badB (by omega)) ho (rkid_lv0 a cap n w _ _ C ho (by simpa using h1) (by omega))
  by_cases g1:(opP zs).level≤32;rotate_left
  ·exact bad (badB (by omega)) ho (rkid_lv1 a cap n w _ _ C ho (by simpa using h1) (by omega) (by omega))
  by_cases h3:1≤(opP zs).count;rotate_left
  ·exact bad (badB (by omega)) ho (rkid_least a cap n w _ _ C ho (by simpa using h1) (by omega) (by omega) (by omega))
  by_cases h4:(opP zs).count≤12;rotate_left
  ·exact bad (badB (by omega)) ho (rkid_most a cap n w _ _ C ho (by simpa using h1) (by omega) (by omega) h3 (by omega))
  obtain ⟨k,hk⟩:=Int.eq_ofNat_of_zero_le (show 0≤(opP zs).count by omega)
  have hB:opB (shtT true) (opP zs)=true:=by
   unfold opB;rw [Bool.and_eq_true,takes_iff];refine ⟨decide_eq_true h1,⟨?_,?_⟩,h3,h4⟩
   ·show (1:Int)≤(opP zs).level;omega
   ·show (opP zs).level≤32;omega
  cases hv:nouB ((opP zs).body.drop (k*20))
  ·exact bad (by unfold reB;rw [hk,Int.toNat_natCast,show szC true=20 from rfl,hv,Bool.and_false,Bool.and_false]) ho (rkid_nou a cap n w _ _ C ho (by simpa using h1) (by omega) (by omega) k hk (by omega) (by omega) hlen hbys hv)
  have:=rkid_got a cap n w _ _ C ho (by simpa using h1) (by omega) (by omega) k hk (by omega) (by omega) hlen hbys hv _ rfl;cases hw:okL true (opP zs).body k
  ·obtain ⟨e1,e2,e3⟩:=re_bad (t:=true) ho (by unfold reB;rw [hk,Int.toNat_natCast,show szC true=20 from rfl,hw,Bool.false_and,Bool.and_false]);rw [hw] at this;rw [e1,e2,e3];refine this.mono ?_;rintro e w' ⟨g,m,c,rfl,hm,ho',hb⟩;have hm0:m=0:=hm;subst hm0;exact ⟨g,c,rfl,ho',hb⟩
  ·obtain ⟨e1,e2,e3⟩:=re_good (t:=true) ho (by unfold reB;rw [hk,Int.toNat_natCast,show szC true=20 from rfl,hw,hv,Bool.and_true,Bool.and_true];exact hB);rw [hw] at this;rw [e1,e2,e3,hk,Int.toNat_natCast,rdL_len];refine this.mono ?_;rintro e w' ⟨g,m,c,rfl,hm,ho',hb⟩;have hm0:m=k:=hm;subst hm0;exact ⟨g,c,rfl,ho',hb⟩
 ·have:=rkid_err a cap n w _ _ C (by simpa using ho);have e1:reE true zs=opE zs:=by unfold reE;rw [if_neg ho]
  have e2:reL true zs=[]:=by unfold reL;rw [e1,if_neg ho]
  have e3:reV true zs=0:=by unfold reV;rw [e1,if_neg ho]
  rw [e1,e2,e3];refine this.mono ?_;rintro e w' ⟨rfl,hb⟩;exact ⟨none,0,rfl,ownC_nil _ _ _,hb⟩
theorem rNeed_any (n:Int) (w:World) (h0: -9223372036854775808≤n) (h1:n≤9223372036854775807):Calls Tryz.prog 36 #[.int .i64 n] w fun e w'=>e=.returned (.int .i64 (nedI n))∧w=w':=by
 by_cases h:n<1
 ·have HE:Hid (nedI n=0):=if_pos h;go_enter Tryz.func36,Tryz.ntmps36
  go_wp2;go_ret
  exact ⟨by rw [HE.out];rfl,rfl⟩
 ·have HE:Hid (nedI n=(n-1)/244+1):=if_neg h;obtain ⟨m,rfl⟩:∃m:Nat,n=m+1:=⟨(n-1).toNat,by omega⟩;have hm:m≤9223372036854775806:=by omega
  have e1:((m:Int)+1-1)=m:=by omega
  have e2:IntKind.i64.wrap ((m:Int)/244+1)=(m:Int)/244+1:=by
   simp only [IntKind.wrap,IntKind.signed,IntKind.bits];simp;omega
  rw [e1] at HE;clear h h0 h1;go_enter Tryz.func36,Tryz.ntmps36
  go_wp2;go_ret
  exact ⟨by rw [HE.out];rfl,rfl⟩
theorem rpart_err (a:Option Addr) (cap n:Nat) (w:World) (P:Pg) (E:Int) (C:Calls Tryz.prog 95 #[.slice a n cap] w fun e w'=>∃g c,e=.returned (.tuple #[pgV P g c,.int .i64 E])∧Own w.heap.size w' (.slice g P.body.length c) P.body∧Below w.heap.size w w') (hE:(E !=0)=true):
  Calls Tryz.prog 73 #[.slice a n cap] w fun e w'=>e=.returned (.tuple #[.slice none 0 0,.int .i64 0,.int .i64 E])∧Below w.heap.size w w':=by
 dsimp only [pgV] at C;have HC:Hid _:=C;clear C;go_enter Tryz.func73,Tryz.ntmps73
 go_wp2_with fail
 refine (Calls.mono HC.out) ?_;rintro e w1 ⟨g,c,rfl,ho,hb⟩;have HB:Hid (Below w.heap.size w w1):=hb;clear hb ho HC;go_wp2;go_ret3
 exact ⟨rfl,HB.out.alloc HB.out.size _⟩
theorem rpart_kind (a:Option Addr) (cap n:Nat) (w:World) (P:Pg) (E:Int) (C:Calls Tryz.prog 95 #[.slice a n cap] w fun e w'=>∃g c,e=.returned (.tuple #[pgV P g c,.int .i64 E])∧Own w.heap.size w' (.slice g P.body.length c) P.body∧Below w.heap.size w w') (hE:E=0) (hlen:P.body.length=248) (hbys:Bys P.body) (X:Int) (hX:nx P=X) (h1:(P.kind !=5)=true):
  Calls Tryz.prog 73 #[.slice a n cap] w fun e w'=>e=.returned (.tuple #[.slice none 0 0,.int .i64 0,.int .i64 4])∧Below w.heap.size w w':=by
 subst hE;dsimp only [pgV] at C;rw [hlen] at C;have HC:Hid _:=C;clear C;go_enter Tryz.func73,Tryz.ntmps73
 go_wp2_with fail
 refine (Calls.mono HC.out) ?_;rintro e w1 ⟨g,c,rfl,ho,hb⟩;have HB:Hid (Below w.heap.size w w1):=hb;have hg:=rnumber_any g c P.body 0 4 (w1.alloc (.cells #[.int .i64 P.kind,.int .i64 P.level,.int .i64 P.count,.slice g 248 c] 127)) ((ho.row' hbys).2.below ((Below.refl _ _).alloc (Nat.le_refl _) _));rw [hlen,show getI P.body 0 4=X from hX] at hg;clear hb ho HC hX;go_wp2_with fail
 refine hg.mono ?_;clear hg;rintro e w2 ⟨rfl,rfl⟩;go_wp2;go_ret3
 exact ⟨rfl,HB.out.alloc HB.out.size _⟩
theorem rpart_level (a:Option Addr) (cap n:Nat) (w:World) (P:Pg) (E:Int) (C:Calls Tryz.prog 95 #[.slice a n cap] w fun e w'=>∃g c,e=.returned (.tuple #[pgV P g c,.int .i64 E])∧Own w.heap.size w' (.slice g P.body.length c) P.body∧Below w.heap.size w w') (hE:E=0) (hlen:P.body.length=248) (hbys:Bys P.body) (X:Int) (hX:nx P=X) (h1:(P.kind !=5)=false) (h2:(P.level !=0)=true):
  Calls Tryz.prog 73 #[.slice a n cap] w fun e w'=>e=.returned (.tuple #[.slice none 0 0,.int .i64 0,.int .i64 4])∧Below w.heap.size w w':=by
 subst hE;dsimp only [pgV] at C;rw [hlen] at C;have HC:Hid _:=C;clear C;go_enter Tryz.func73,Tryz.ntmps73
 go_wp2_with fail
 refine (Calls.mono HC.out) ?_;rintro e w1 ⟨g,c,rfl,ho,hb⟩;have HB:Hid (Below w.heap.size w w1):=hb;have hg:=rnumber_any g c P.body 0 4 (w1.alloc (.cells #[.int .i64 P.kind,.int .i64 P.level,.int .i64 P.count,.slice g 248 c] 127)) ((ho.row' hbys).2.below ((Below.refl _ _).alloc (Nat.le_refl _) _));rw [hlen,show getI P.body 0 4=X from hX] at hg;clear hb ho HC hX;go_wp2_with fail
 refine hg.mono ?_;clear hg;rintro e w2 ⟨rfl,rfl⟩;go_wp2;go_ret3
 exact ⟨rfl,HB.out.alloc HB.out.size _⟩
theorem rpart_least (a:Option Addr) (cap n:Nat) (w:World) (P:Pg) (E:Int) (C:Calls Tryz.prog 95 #[.slice a n cap] w fun e w'=>∃g c,e=.returned (.tuple #[pgV P g c,.int .i64 E])∧Own w.heap.size w' (.slice g P.body.length c) P.body∧Below w.heap.size w w') (hE:E=0) (hlen:P.body.length=248) (hbys:Bys P.body) (X:Int) (hX:nx P=X) (h1:(P.kind !=5)=false) (h2:(P.level !=0)=false) (h3:P.count<1):
  Calls Tryz.prog 73 #[.slice a n cap] w fun e w'=>e=.returned (.tuple #[.slice none 0 0,.int .i64 0,.int .i64 4])∧Below w.heap.size w w':=by
 subst hE;dsimp only [pgV] at C;rw [hlen] at C;have HC:Hid _:=C;clear C;go_enter Tryz.func73,Tryz.ntmps73
 go_wp2_with fail
 refine (Calls.mono HC.out) ?_;rintro e w1 ⟨g,c,rfl,ho,hb⟩;have HB:Hid (Below w.heap.size w w1):=hb;have hg:=rnumber_any g c P.body 0 4 (w1.alloc (.cells #[.int .i64 P.kind,.int .i64 P.level,.int .i64 P.count,.slice g 248 c] 127)) ((ho.row' hbys).2.below ((Below.refl _ _).alloc (Nat.le_refl _) _));rw [hlen,show getI P.body 0 4=X from hX] at hg;clear hb ho HC hX;go_wp2_with fail
 refine hg.mono ?_;clear hg;rintro e w2 ⟨rfl,rfl⟩;go_wp2;go_ret3
 exact ⟨rfl,HB.out.alloc HB.out.size _⟩
theorem rpart_most (a:Option Addr) (cap n:Nat) (w:World) (P:Pg) (E:Int) (C:Calls Tryz.prog 95 #[.slice a n cap] w fun e w'=>∃g c,e=.returned (.tuple #[pgV P g c,.int .i64 E])∧Own w.heap.size w' (.slice g P.body.length c) P.body∧Below w.heap.size w w') (hE:E=0) (hlen:P.body.length=248) (hbys:Bys P.body) (X:Int) (hX:nx P=X) (h1:(P.kind !=5)=false) (h2:(P.level !=0)=false) (h3:1≤P.count) (h4:244<P.count):
  Calls Tryz.prog 73 #[.slice a n cap] w fun e w'=>e=.returned (.tuple #[.slice none 0 0,.int .i64 0,.int .i64 4])∧Below w.heap.size w w':=by
 subst hE;dsimp only [pgV] at C;rw [hlen] at C;have HC:Hid _:=C;clear C;go_enter Tryz.func73,Tryz.ntmps73
 go_wp2_with fail
 refine (Calls.mono HC.out) ?_;rintro e w1 ⟨g,c,rfl,ho,hb⟩;have HB:Hid (Below w.heap.size w w1):=hb;have hg:=rnumber_any g c P.body 0 4 (w1.alloc (.cells #[.int .i64 P.kind,.int .i64 P.level,.int .i64 P.count,.slice g 248 c] 127)) ((ho.row' hbys).2.below ((Below.refl _ _).alloc (Nat.le_refl _) _));rw [hlen,show getI P.body 0 4=X from hX] at hg;clear hb ho HC hX;go_wp2_with fail
 refine hg.mono ?_;clear hg;rintro e w2 ⟨rfl,rfl⟩;go_wp2;go_ret3
 exact ⟨rfl,HB.out.alloc HB.out.size _⟩
theorem rpart_one (a:Option Addr) (cap n:Nat) (w:World) (P:Pg) (E:Int) (C:Calls Tryz.prog 95 #[.slice a n cap] w fun e w'=>∃g c,e=.returned (.tuple #[pgV P g c,.int .i64 E])∧Own w.heap.size w' (.slice g P.body.length c) P.body∧Below w.heap.size w w') (hE:E=0) (hlen:P.body.length=248) (hbys:Bys P.body) (X:Int) (hX:nx P=X) (h1:(P.kind !=5)=false) (h2:(P.level !=0)=false) (h3:1≤P.count) (h4:P.count≤244) (h5:(X==1)=true):
  Calls Tryz.prog 73 #[.slice a n cap] w fun e w'=>e=.returned (.tuple #[.slice none 0 0,.int .i64 0,.int .i64 4])∧Below w.heap.size w w':=by
 subst hE;dsimp only [pgV] at C;rw [hlen] at C;have HC:Hid _:=C;clear C;go_enter Tryz.func73,Tryz.ntmps73
 go_wp2_with fail
 refine (Calls.mono HC.out) ?_;rintro e w1 ⟨g,c,rfl,ho,hb⟩;have HB:Hid (Below w.heap.size w w1):=hb;have hg:=rnumber_any g c P.body 0 4 (w1.alloc (.cells #[.int .i64 P.kind,.int .i64 P.level,.int .i64 P.count,.slice g 248 c] 127)) ((ho.row' hbys).2.below ((Below.refl _ _).alloc (Nat.le_refl _) _));rw [hlen,show getI P.body 0 4=X from hX] at hg;clear hb ho HC hX;go_wp2_with fail
 refine hg.mono ?_;clear hg;rintro e w2 ⟨rfl,rfl⟩;go_wp2;go_ret3
 exact ⟨rfl,HB.out.alloc HB.out.size _⟩
theorem rpart_far (a:Option Addr) (cap n:Nat) (w:World) (P:Pg) (E:Int) (C:Calls Tryz.prog 95 #[.slice a n cap] w fun e w'=>∃g c,e=.returned (.tuple #[pgV P g c,.int .i64 E])∧Own w.heap.size w' (.slice g P.body.length c) P.body∧Below w.heap.size w w') (hE:E=0) (hlen:P.body.length=248) (hbys:Bys P.body) (X:Int) (hX:nx P=X) (h1:(P.kind !=5)=false) (h2:(P.level !=0)=false) (h3:1≤P.count) (h4:P.count≤244) (h5:(X==1)=false) (h6:4096≤X):
  Calls Tryz.prog 73 #[.slice a n cap] w fun e w'=>e=.returned (.tuple #[.slice none 0 0,.int .i64 0,.int .i64 4])∧Below w.heap.size w w':=by
 subst hE;dsimp only [pgV] at C;rw [hlen] at C;have HC:Hid _:=C;clear C;go_enter Tryz.func73,Tryz.ntmps73
 go_wp2_with fail
 refine (Calls.mono HC.out) ?_;rintro e w1 ⟨g,c,rfl,ho,hb⟩;have HB:Hid (Below w.heap.size w w1):=hb;have hg:=rnumber_any g c P.body 0 4 (w1.alloc (.cells #[.int .i64 P.kind,.int .i64 P.level,.int .i64 P.count,.slice g 248 c] 127)) ((ho.row' hbys).2.below ((Below.refl _ _).alloc (Nat.le_refl _) _));rw [hlen,show getI P.body 0 4=X from hX] at hg;clear hb ho HC hX;go_wp2_with fail
 refine hg.mono ?_;clear hg;rintro e w2 ⟨rfl,rfl⟩;go_wp2;go_ret3
 exact ⟨rfl,HB.out.alloc HB.out.size _⟩
theorem rpart_short (a:Option Addr) (cap n:Nat) (w:World) (P:Pg) (E:Int) (C:Calls Tryz.prog 95 #[.slice a n cap] w fun e w'=>∃g c,e=.returned (.tuple #[pgV P g c,.int .i64 E])∧Own w.heap.size w' (.slice g P.body.length c) P.body∧Below w.heap.size w w') (hE:E=0) (hlen:P.body.length=248) (hbys:Bys P.body) (X:Int) (hX:nx P=X) (h1:(P.kind !=5)=false) (h2:(P.level !=0)=false) (h3:1≤P.count) (h4:P.count≤244) (h5:(X==1)=false) (h6:X<4096) (h7:(X !=0)=true) (h8:(P.count !=244)=true):
  Calls Tryz.prog 73 #[.slice a n cap] w fun e w'=>e=.returned (.tuple #[.slice none 0 0,.int .i64 0,.int .i64 4])∧Below w.heap.size w w':=by
 subst hE;dsimp only [pgV] at C;rw [hlen] at C;have HC:Hid _:=C;clear C;go_enter Tryz.func73,Tryz.ntmps73
 go_wp2_with fail
 refine (Calls.mono HC.out) ?_;rintro e w1 ⟨g,c,rfl,ho,hb⟩;have HB:Hid (Below w.heap.size w w1):=hb;have hg:=rnumber_any g c P.body 0 4 (w1.alloc (.cells #[.int .i64 P.kind,.int .i64 P.level,.int .i64 P.count,.slice g 248 c] 127)) ((ho.row' hbys).2.below ((Below.refl _ _).alloc (Nat.le_refl _) _));rw [hlen,show getI P.body 0 4=X from hX] at hg;clear hb ho HC hX;go_wp2_with fail
 refine hg.mono ?_;clear hg;rintro e w2 ⟨rfl,rfl⟩;go_wp2;go_ret3
 exact ⟨rfl,HB.out.alloc HB.out.size _⟩
theorem rpart_got0 (a:Option Addr) (cap n:Nat) (w:World) (P:Pg) (E:Int) (C:Calls Tryz.prog 95 #[.slice a n cap] w fun e w'=>∃g c,e=.returned (.tuple #[pgV P g c,.int .i64 E])∧Own w.heap.size w' (.slice g P.body.length c) P.body∧Below w.heap.size w w') (hE:E=0) (hlen:P.body.length=248) (hbys:Bys P.body) (X:Int) (hX:nx P=X) (h1:(P.kind !=5)=false) (h2:(P.level !=0)=false) (h5:(X==1)=false) (h6:X<4096) (h7:(X !=0)=false) (k:Nat) (hk:P.count=k) (hk1:1≤k) (hk2:k≤244) (V:Bool) (hV:nouB (P.body.drop (4+k))=V):
  Calls Tryz.prog 73 #[.slice a n cap] w fun e w'=>∃g c,e=.returned (.tuple #[.slice g (if V then k else 0) c,.int .i64 (if V then X else 0),.int .i64 (if V then 0 else 4)])∧(g=none→c=0)∧Row w' g c (if V then (P.body.drop 4).take k else [])∧Below w.heap.size w w':=by
 subst hE;dsimp only [pgV] at C;rw [hlen,hk] at C;have HC:Hid _:=C;clear C hk;go_enter Tryz.func73,Tryz.ntmps73
 go_wp2_with fail
 refine (Calls.mono HC.out) ?_;rintro e w1 ⟨g,c,rfl,ho,hb⟩;have HB:Hid (Below w.heap.size w w1):=hb;have HR:Hid (Row (w1.alloc (.cells #[.int .i64 P.kind,.int .i64 P.level,.int .i64 k,.slice g 248 c] 127)) g c P.body):=(ho.row' hbys).2.below ((Below.refl _ _).alloc (Nat.le_refl _) _);have hg:=rnumber_any g c P.body 0 4 _ HR.out;rw [hlen,show getI P.body 0 4=X from hX] at hg;clear hb ho HC hX;obtain ⟨b,off,hgg⟩:=HR.out.some' (by omega);subst hgg;have hcap:=HR.out.2.1;have hmx:=HR.out.2.2.1;unfold maxLen at hmx;rw [hlen] at hcap;have CN:=rnoughts_v _ _ _ 248 (4+k) _ _ HR.out hlen (by omega) V hV;have hk4:((4+k:Nat):Int)=4+(k:Int):=by omega
 rw [hk4] at CN;go_wp2_with fail
 refine hg.mono ?_;clear hg;rintro e w2 ⟨rfl,rfl⟩;cases V
 ·go_wp2_with fail
  refine CN.mono ?_;clear CN;rintro e w3 ⟨rfl,rfl⟩;go_wp2;go_ret3
  exact ⟨none,0,rfl,fun _=>rfl,row0 _,HB.out.alloc HB.out.size _⟩
 ·go_wp2_with fail
  refine CN.mono ?_;clear CN;rintro e w3 ⟨rfl,rfl⟩;go_wp2;go_ret3
  exact ⟨some ⟨b,off+4,none⟩,c-4,rfl,(fun h=>by cases h),(HR.out.drop' 4 (by omega)).take' k (c-4) (by rw [List.length_drop];omega) (by omega) (Nat.le_refl _),HB.out.alloc HB.out.size _⟩
theorem rpart_got1 (a:Option Addr) (cap n:Nat) (w:World) (P:Pg) (E:Int) (C:Calls Tryz.prog 95 #[.slice a n cap] w fun e w'=>∃g c,e=.returned (.tuple #[pgV P g c,.int .i64 E])∧Own w.heap.size w' (.slice g P.body.length c) P.body∧Below w.heap.size w w') (hE:E=0) (hlen:P.body.length=248) (hbys:Bys P.body) (X:Int) (hX:nx P=X) (h1:(P.kind !=5)=false) (h2:(P.level !=0)=false) (h5:(X==1)=false) (h6:X<4096) (h7:(X !=0)=true) (hk:P.count=244) (V:Bool) (hV:nouB (P.body.drop (248))=V):
  Calls Tryz.prog 73 #[.slice a n cap] w fun e w'=>∃g c,e=.returned (.tuple #[.slice g (if V then 244 else 0) c,.int .i64 (if V then X else 0),.int .i64 (if V then 0 else 4)])∧(g=none→c=0)∧Row w' g c (if V then (P.body.drop 4).take 244 else [])∧Below w.heap.size w w':=by
 subst hE;dsimp only [pgV] at C;rw [hlen,hk] at C;have HC:Hid _:=C;clear C hk;go_enter Tryz.func73,Tryz.ntmps73
 go_wp2_with fail
 refine (Calls.mono HC.out) ?_;rintro e w1 ⟨g,c,rfl,ho,hb⟩;have HB:Hid (Below w.heap.size w w1):=hb;have HR:Hid (Row (w1.alloc (.cells #[.int .i64 P.kind,.int .i64 P.level,.int .i64 244,.slice g 248 c] 127)) g c P.body):=(ho.row' hbys).2.below ((Below.refl _ _).alloc (Nat.le_refl _) _);have hg:=rnumber_any g c P.body 0 4 _ HR.out;rw [hlen,show getI P.body 0 4=X from hX] at hg;clear hb ho HC hX;obtain ⟨b,off,hgg⟩:=HR.out.some' (by omega);subst hgg;have hcap:=HR.out.2.1;have hmx:=HR.out.2.2.1;unfold maxLen at hmx;rw [hlen] at hcap;have CN:=rnoughts_v _ _ _ 248 248 _ _ HR.out hlen (by omega) V hV;rw [show ((248:Nat):Int)=248 from rfl] at CN;go_wp2_with fail
 refine hg.mono ?_;clear hg;rintro e w2 ⟨rfl,rfl⟩;cases V
 ·go_wp2_with fail
  refine CN.mono ?_;clear CN;rintro e w3 ⟨rfl,rfl⟩;go_wp2;go_ret3
  exact ⟨none,0,rfl,fun _=>rfl,row0 _,HB.out.alloc HB.out.size _⟩
 ·go_wp2_with fail
  refine CN.mono ?_;clear CN;rintro e w3 ⟨rfl,rfl⟩;go_wp2;go_ret3
  exact ⟨some ⟨b,off+4,none⟩,c-4,rfl,(fun h=>by cases h),(HR.out.drop' 4 (by omega)).take' 244 (c-4) (by rw [List.length_drop];omega) (by omega) (Nat.le_refl _),HB.out.alloc HB.out.size _⟩
theorem ptB_yes {P:Pg} (h1:P.kind=5) (h2:P.level=0) (h3:1≤P.count) (h4:P.count≤244) (h5:nx P≠1) (h6:nx P<4096) (h7:nx P≠0→P.count=244):ptB P=nouB (P.body.drop (4+P.count.toNat)):=by
 unfold ptB;rw [decide_eq_true h1,decide_eq_true h2,decide_eq_true (And.intro h3 h4),decide_eq_true (And.intro h5 (And.intro h6 h7))];rfl
theorem ptB_no {P:Pg} (h:¬(P.kind=5∧P.level=0∧(1≤P.count∧P.count≤244)∧(nx P≠1∧nx P<4096∧(nx P≠0→P.count=244)))):ptB P=false:=by
 cases hB:ptB P
 ·rfl
 ·refine absurd ?_ h;unfold ptB at hB;simp only [Bool.and_eq_true,decide_eq_true_eq] at hB;exact ⟨hB.1,hB.2.1,hB.2.2.1,hB.2.2.2.1⟩
theorem rPart_v (a:Option Addr) (cap n:Nat) (zs:List Int) (w:World) (h:Row w a cap zs) (hn:zs.length=n) (E:Int) (hE:ptE zs=E) (L:List Int) (hL:ptL zs=L) (m:Nat) (hm:L.length=m) (Y:Int) (hY:ptN zs=Y):
  Calls Tryz.prog 73 #[.slice a n cap] w fun e w'=>∃g c,e=.returned (.tuple #[.slice g m c,.int .i64 Y,.int .i64 E])∧(g=none→c=0)∧Row w' g c L∧Below w.heap.size w w':=by
 subst hE hL hm hY;have C:=ropen_v a cap n zs w h hn _ rfl _ rfl
 have bad:ptB (opP zs)=false→opE zs=0→Calls Tryz.prog 73 #[.slice a n cap] w (fun e w'=>e=.returned (.tuple #[.slice none 0 0,.int .i64 0,.int .i64 4])∧Below w.heap.size w w')→Calls Tryz.prog 73 #[.slice a n cap] w fun e w'=>∃g c,e=.returned (.tuple #[.slice g (ptL zs).length c,.int .i64 (ptN zs),.int .i64 (ptE zs)])∧(g=none→c=0)∧Row w' g c (ptL zs)∧Below w.heap.size w w':=fun hb ho hc=>by
  obtain ⟨e1,e2,e3⟩:=ptE_no ho hb;rw [e1,e2,e3];refine hc.mono ?_;rintro e w' ⟨rfl,hb⟩;exact ⟨none,0,rfl,fun _=>rfl,row0 _,hb⟩
 by_cases ho:opE zs=0;rotate_left
 ·obtain ⟨e1,e2,e3⟩:=ptE_op ho;rw [e1,e2,e3];refine (rpart_err a cap n w _ _ C (by simpa using ho)).mono ?_;rintro e w' ⟨rfl,hb⟩;exact ⟨none,0,rfl,fun _=>rfl,row0 _,hb⟩
 obtain ⟨_,_,hbys,hlen⟩:=seal_open h.1 ho;by_cases h1:(opP zs).kind=5;rotate_left
 ·exact bad (ptB_no fun hh=>h1 hh.1) ho (rpart_kind a cap n w _ _ C ho hlen hbys _ rfl (by simpa using h1))
 have b1:((opP zs).kind !=5)=false:=by simpa using h1
 by_cases h2:(opP zs).level=0;rotate_left
 ·exact bad (ptB_no fun hh=>h2 hh.2.1) ho (rpart_level a cap n w _ _ C ho hlen hbys _ rfl b1 (by simpa using h2))
 have b2:((opP zs).level !=0)=false:=by simpa using h2
 by_cases h3:1≤(opP zs).count;rotate_left
 ·exact bad (ptB_no fun hh=>h3 hh.2.2.1.1) ho (rpart_least a cap n w _ _ C ho hlen hbys _ rfl b1 b2 (by omega))
 by_cases h4:(opP zs).count≤244;rotate_left
 ·exact bad (ptB_no fun hh=>h4 hh.2.2.1.2) ho (rpart_most a cap n w _ _ C ho hlen hbys _ rfl b1 b2 h3 (by omega))
 by_cases h5:nx (opP zs)=1
 ·exact bad (ptB_no fun hh=>hh.2.2.2.1 h5) ho (rpart_one a cap n w _ _ C ho hlen hbys _ rfl b1 b2 h3 h4 (by simpa using h5))
 have b5:(nx (opP zs)==1)=false:=by simpa using h5
 by_cases h6:nx (opP zs)<4096;rotate_left
 ·exact bad (ptB_no fun hh=>h6 hh.2.2.2.2.1) ho (rpart_far a cap n w _ _ C ho hlen hbys _ rfl b1 b2 h3 h4 b5 (by omega))
 obtain ⟨k,hk⟩:=Int.eq_ofNat_of_zero_le (show 0≤(opP zs).count by omega)
 have fin:∀V:Bool,nouB ((opP zs).body.drop (4+k))=V→(nx (opP zs)≠0→(opP zs).count=244)→ptE zs=(if V then 0 else 4)∧ptL zs=(if V then ((opP zs).body.drop 4).take k else [])∧ptN zs=(if V then nx (opP zs) else 0):=fun V hV h7=>by
  have hp:ptB (opP zs)=V:=by rw [ptB_yes h1 h2 h3 h4 h5 h6 h7,hk,Int.toNat_natCast];exact hV
  cases V
  ·exact ptE_no ho hp
  ·have e:ptE zs=0:=by unfold ptE;rw [if_pos ho,hp];rfl
   unfold ptL ptN;rw [e,hk];exact ⟨rfl,rfl,rfl⟩
 by_cases h7:nx (opP zs)=0
 ·obtain ⟨V,hV⟩:∃V,nouB ((opP zs).body.drop (4+k))=V:=⟨_,rfl⟩;obtain ⟨e1,e2,e3⟩:=fin V hV (fun hh=>absurd h7 hh);have hg:=rpart_got0 a cap n w _ _ C ho hlen hbys _ rfl b1 b2 b5 h6 (by simpa using h7) k hk (by omega) (by omega) V hV;rw [e1,e2,e3]
  have hl:(if V=true then ((opP zs).body.drop 4).take k else []).length=if V=true then k else 0:=by
   cases V
   ·rfl
   ·show (((opP zs).body.drop 4).take k).length=k;rw [List.length_take,List.length_drop,hlen];omega
  rw [hl];exact hg
 ·have b7:(nx (opP zs) !=0)=true:=by simpa using h7
  by_cases h8:(opP zs).count=244;rotate_left
  ·exact bad (ptB_no fun hh=>h8 (hh.2.2.2.2.2 h7)) ho (rpart_short a cap n w _ _ C ho hlen hbys _ rfl b1 b2 h3 h4 b5 h6 b7 (by simpa using h8))
  have hk244:k=244:=by omega
  subst hk244;obtain ⟨V,hV⟩:∃V,nouB ((opP zs).body.drop 248)=V:=⟨_,rfl⟩;obtain ⟨e1,e2,e3⟩:=fin V hV (fun _=>h8);have hg:=rpart_got1 a cap n w _ _ C ho hlen hbys _ rfl b1 b2 b5 h6 b7 h8 V hV;rw [e1,e2,e3]
  have hl:(if V=true then ((opP zs).body.drop 4).take 244 else []).length=if V=true then 244 else 0:=by
   cases V
   ·rfl
   ·show (((opP zs).body.drop 4).take 244).length=244;rw [List.length_take,List.length_drop,hlen];omega
  rw [hl];exact hg
end Go.Proofs.YtjllhcifmfhkmaaGreat.Oct
