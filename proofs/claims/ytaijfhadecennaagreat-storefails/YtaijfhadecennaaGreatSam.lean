/- Part of a proof. -/
import Derived.Test.YtaijfhadecennaaGreatImx
import Derived.Test.YtaijfhadecennaaGreatQg
import Derived.Test.YtaijfhadecennaaGreatEac
import Derived.Test.YtaijfhadecennaaGreatEae
import Derived.Test.YtaijfhadecennaaGreatGm
import Derived.Test.YtaijfhadecennaaGreatVd
open Go.Proofs.Tryz
set_option maxHeartbeats 8000000
namespace Go.Proofs.YtaijfhadecennaaGreat.Oct
open Go.RowKit
set_option maxRecDepth 20000 in
theorem rsame_yes {w:World} {S:Sp} {pl h h':Int} {aP aT aS aG bP bT bS bG:Option Addr} {cP cT cS cG dP dT dS dG n1 n2 n3 n4:Nat} {pc:List C4} {tx st pg:List Int}
  (p1:RowC w aP cP pc) (p2:RowC w bP dP pc) (t1:Row w aT cT tx) (t2:Row w bT dT tx) (s1:Row w aS cS st) (s2:Row w bS dS st) (g1:RowI w aG cG pg) (g2:RowI w bG dG pg) (e1:pc.length=n1) (e2:tx.length=n2) (e3:st.length=n3) (e4:pg.length=n4):
  Calls prog 119 #[.agg (rpC S pl (.slice aP n1 cP) (.slice aT n2 cT) (.slice aS n3 cS) (.slice aG n4 cG) h),.agg (rpC S pl (.slice bP n1 dP) (.slice bT n2 dT) (.slice bS n3 dS) (.slice bG n4 dG) h')] w fun e w'=>e=.returned (.bool true)/\Below w.heap.size w w':=by
 unfold rpC;go_enter func119,ntmps119
 go_upto_region 1 with fail
 obtain ⟨w0,hw0⟩:∃w0,((w.alloc (.cells #[.int .i64 S.g,.int .i64 S.p,.int .i64 S.r,.int .i64 S.h,.int .i64 S.b,.int .i64 S.l,.int .i64 S.s,.int .i64 S.f,.int .i64 pl,.slice aP n1 cP,.slice aT n2 cT,.slice aS n3 cS,.slice aG n4 cG,.int .i64 h] 95)).alloc (.cells #[.int .i64 S.g,.int .i64 S.p,.int .i64 S.r,.int .i64 S.h,.int .i64 S.b,.int .i64 S.l,.int .i64 S.s,.int .i64 S.f,.int .i64 pl,.slice bP n1 dP,.slice bT n2 dT,.slice bS n3 dS,.slice bG n4 dG,.int .i64 h'] 95))=w0:=⟨_,rfl⟩;rw [hw0]
 have HX:Hid (Below w.heap.size w w0/\w0.heap.size=w.heap.size+2/\w0.heap[w.heap.size]?=some (.cells (rpC S pl (.slice aP n1 cP) (.slice aT n2 cT) (.slice aS n3 cS) (.slice aG n4 cG) h) 95 (0,0))/\w0.heap[w.heap.size+1]?=some (.cells (rpC S pl (.slice bP n1 dP) (.slice bT n2 dT) (.slice bS n3 dS) (.slice bG n4 dG) h') 95 (0,0))):=by
  rw [<-hw0];exact ⟨((Below.refl _ w).alloc (jB _) _).alloc (by simp) _,by simp,heap_alloc2_old w _ _,heap_alloc2_new w _ _⟩
 have HR:Hid ((RowC w aP cP pc/\RowC w bP dP pc/\RowI w aG cG pg/\RowI w bG dG pg)/\Row w aT cT tx/\Row w bT dT tx/\Row w aS cS st/\Row w bS dS st):=⟨⟨p1,p2,g1,g2⟩,t1,t2,s1,s2⟩;have HL:Hid (pc.length=n1/\pg.length=n4):=⟨e1,e4⟩;obtain ⟨ra,hra⟩:∃ra,w.heap.size=ra:=⟨_,rfl⟩;have HRA:Hid (w.heap.size=ra):=hra
 have key:∀w1,Below w0.heap.size w0 w1->(∀i,w1.cell? ⟨ra,i,none⟩=(rpC S pl (.slice aP n1 cP) (.slice aT n2 cT) (.slice aS n3 cS) (.slice aG n4 cG) h)[i]?)/\(∀i,w1.cell? ⟨ra+1,i,none⟩=(rpC S pl (.slice bP n1 dP) (.slice bT n2 dT) (.slice bS n3 dS) (.slice bG n4 dG) h')[i]?)/\Below w.heap.size w w1:=fun w1 hb=>by
  have hs:=HX.out.2.1;rw [<-hra];exact ⟨fun i=>cell_of_row w1 _ _ _ _ (0,0) ((hb.block _ (by omega)).trans HX.out.2.2.1),fun i=>cell_of_row w1 _ _ _ _ (0,0) ((hb.block _ (by omega)).trans HX.out.2.2.2),HX.out.1.trans (hb.mono HX.out.1.size)⟩
 rw [hra];have HK:Hid _:=key;have m1:=jP p1.2.1 p1.2.2.1;have m2:=jP t1.2.1 t1.2.2.1;have m3:=jP s1.2.1 s1.2.2.1;have m4:=jP g1.1 g1.2.1;rw [e1] at m1;rw [e2] at m2;rw [e3] at m3;rw [e4] at m4;unfold maxLen at m1 m2 m3 m4;obtain ⟨ka,kb,-⟩:=key w0 (Below.refl _ _);have a0:w0.cell? ⟨ra,0,none⟩=some (.int .i64 S.g):=by rw [ka];rfl
 have a1:w0.cell? ⟨ra,1,none⟩=some (.int .i64 S.p):=by rw [ka];rfl
 have a2:w0.cell? ⟨ra,2,none⟩=some (.int .i64 S.r):=by rw [ka];rfl
 have a3:w0.cell? ⟨ra,3,none⟩=some (.int .i64 S.h):=by rw [ka];rfl
 have a4:w0.cell? ⟨ra,4,none⟩=some (.int .i64 S.b):=by rw [ka];rfl
 have a5:w0.cell? ⟨ra,5,none⟩=some (.int .i64 S.l):=by rw [ka];rfl
 have a6:w0.cell? ⟨ra,6,none⟩=some (.int .i64 S.s):=by rw [ka];rfl
 have a7:w0.cell? ⟨ra,7,none⟩=some (.int .i64 S.f):=by rw [ka];rfl
 have a8:w0.cell? ⟨ra,8,none⟩=some (.int .i64 pl):=by rw [ka];rfl
 have a9:w0.cell? ⟨ra,9,none⟩=some (.slice aP n1 cP):=by rw [ka];rfl
 have a10:w0.cell? ⟨ra,10,none⟩=some (.slice aT n2 cT):=by rw [ka];rfl
 have a11:w0.cell? ⟨ra,11,none⟩=some (.slice aS n3 cS):=by rw [ka];rfl
 have a12:w0.cell? ⟨ra,12,none⟩=some (.slice aG n4 cG):=by rw [ka];rfl
 have b0:w0.cell? ⟨ra+1,0,none⟩=some (.int .i64 S.g):=by rw [kb];rfl
 have b1:w0.cell? ⟨ra+1,1,none⟩=some (.int .i64 S.p):=by rw [kb];rfl
 have b2:w0.cell? ⟨ra+1,2,none⟩=some (.int .i64 S.r):=by rw [kb];rfl
 have b3:w0.cell? ⟨ra+1,3,none⟩=some (.int .i64 S.h):=by rw [kb];rfl
 have b4:w0.cell? ⟨ra+1,4,none⟩=some (.int .i64 S.b):=by rw [kb];rfl
 have b5:w0.cell? ⟨ra+1,5,none⟩=some (.int .i64 S.l):=by rw [kb];rfl
 have b6:w0.cell? ⟨ra+1,6,none⟩=some (.int .i64 S.s):=by rw [kb];rfl
 have b7:w0.cell? ⟨ra+1,7,none⟩=some (.int .i64 S.f):=by rw [kb];rfl
 have b8:w0.cell? ⟨ra+1,8,none⟩=some (.int .i64 pl):=by rw [kb];rfl
 have b9:w0.cell? ⟨ra+1,9,none⟩=some (.slice bP n1 dP):=by rw [kb];rfl
 have b10:w0.cell? ⟨ra+1,10,none⟩=some (.slice bT n2 dT):=by rw [kb];rfl
 have b11:w0.cell? ⟨ra+1,11,none⟩=some (.slice bS n3 dS):=by rw [kb];rfl
 have b12:w0.cell? ⟨ra+1,12,none⟩=some (.slice bG n4 dG):=by rw [kb];rfl
 have C1:=VP aT bT cT dT tx tx w0 (t1.below HX.out.1) (t2.below HX.out.1);rw [e2,show sameB tx tx=true from by unfold sameB;simp] at C1;have HS1:Hid (st.length=n3):=e3;clear hw0 p1 p2 t1 t2 s1 s2 g1 g2 e1 e2 e3 e4 hra key ka kb;go_wp2_with fail
 refine C1.mono ?_;clear C1;rintro e w1 ⟨rfl,hb1⟩;clear a0 a1 a2 a3 a4 a5 a6 a7 a8 a9 a10 a11 a12 b0 b1 b2 b3 b4 b5 b6 b7 b8 b9 b10 b11 b12;obtain ⟨ka,kb,hw1⟩:=HK.out w1 hb1;have a11:w1.cell? ⟨ra,11,none⟩=some (.slice aS n3 cS):=by rw [ka];rfl
 have b11:w1.cell? ⟨ra+1,11,none⟩=some (.slice bS n3 dS):=by rw [kb];rfl
 have C2:=VP aS bS cS dS st st w1 (HR.out.2.2.2.1.below hw1) (HR.out.2.2.2.2.below hw1);rw [HS1.out,show sameB st st=true from by unfold sameB;simp] at C2;have HB1:Hid (Below w0.heap.size w0 w1):=hb1;clear ka kb hw1 hb1;go_wp2_with fail
 refine C2.mono ?_;clear C2;rintro e w2 ⟨rfl,hb2⟩;clear a11 b11;obtain ⟨ka,kb,hw2⟩:=HK.out w2 (HB1.out.trans (hb2.mono HB1.out.size));have a9:w2.cell? ⟨ra,9,none⟩=some (.slice aP n1 cP):=by rw [ka];rfl
 have b9:w2.cell? ⟨ra+1,9,none⟩=some (.slice bP n1 dP):=by rw [kb];rfl
 have a12:w2.cell? ⟨ra,12,none⟩=some (.slice aG n4 cG):=by rw [ka];rfl
 have b12:w2.cell? ⟨ra+1,12,none⟩=some (.slice bG n4 dG):=by rw [kb];rfl
 have H2:Hid (Below w.heap.size w w2):=hw2;have HP:Hid (RowC w2 aP cP pc/\RowC w2 bP dP pc/\RowI w2 aG cG pg/\RowI w2 bG dG pg):=⟨HR.out.1.1.below hw2,HR.out.1.2.1.below hw2,HR.out.1.2.2.1.below hw2,HR.out.1.2.2.2.below hw2⟩;clear ka kb hw2 hb2 HB1 HR;go_wp2_with fail
 go_loopg [5] n1 (fun gh i wr=>∃k:Nat,k<=n1/\gh=n1-k/\i=.int .i64 (k:Int)/\Hid (Below w2.heap.size w2 wr))
 case atStart=>exact ⟨0,jT _,rfl,rfl,Below.refl _ _⟩
 case round=>
  obtain ⟨k,hk,hgk,rfl,HI⟩:=hrel;have HGK:Hid (gk=n1-k):=hgk;clear hgk;have x9:wr.cell? ⟨ra,9,none⟩=some (.slice aP n1 cP):=(HI.out.cell (p:=⟨ra,9,none⟩) (block_lt_of_cell a9)).trans a9;have y9:wr.cell? ⟨ra+1,9,none⟩=some (.slice bP n1 dP):=(HI.out.cell (p:=⟨ra+1,9,none⟩) (block_lt_of_cell b9)).trans b9;by_cases hlt:k<n1
  ·have hpl:0<pc.length:=by have:=HL.out.1;omega
   obtain ⟨p1,o1,rfl⟩:=HP.out.1.some' hpl;obtain ⟨p2,o2,rfl⟩:=HP.out.2.1.some' hpl;obtain ⟨u0,u1,u2,u3⟩:=(HP.out.1.below HI.out).cells k (by have:=HL.out.1;omega);obtain ⟨v0,v1,v2,v3⟩:=(HP.out.2.1.below HI.out).cells k (by have:=HL.out.1;omega);have l1:=HP.out.1.2.1;have l2:=HP.out.2.1.2.1;rw [HL.out.1] at l1 l2;have l3:=HP.out.1.2.2.1;have l4:=HP.out.2.1.2.2.1;unfold maxLen at l3 l4;obtain ⟨q,hq⟩:∃q,pc.getD k c40=q:=⟨_,rfl⟩;rw [hq] at u0 u1 u2 u3 v0 v1 v2 v3;clear hq;go_wp2_with fail
   go_region
   go_wp2;go_roundg (n1-(k+1))
   case rel=>exact ⟨k+1,by omega,rfl,by go_num,HI.out.drew⟩
   case measure=>have:=HGK.out;omega
  ·obtain rfl:k=n1:=by omega
   have HI2:Hid (Below w2.heap.size w2 wr):=HI.out;clear HI HGK hk hlt;go_wp2_with fail
   go_loopg [6] n4 (fun gh i wx=>∃y:Nat,y<=n4/\gh=n4-y/\i=.int .i64 (y:Int)/\Hid (Below w2.heap.size w2 wx))
   case atStart=>exact ⟨0,jT _,rfl,rfl,HI2.out⟩
   case round=>
    clear HI2 x9 y9;obtain ⟨y,hy,hgk,rfl,HI⟩:=hrel;have HGK:Hid (gk=n4-y):=hgk;clear hgk;have x12:wr.cell? ⟨ra,12,none⟩=some (.slice aG n4 cG):=(HI.out.cell (p:=⟨ra,12,none⟩) (block_lt_of_cell a12)).trans a12;have y12:wr.cell? ⟨ra+1,12,none⟩=some (.slice bG n4 dG):=(HI.out.cell (p:=⟨ra+1,12,none⟩) (block_lt_of_cell b12)).trans b12;by_cases hlt:y<n4
    ·have l1:=HP.out.2.2.1.1;have l2:=HP.out.2.2.2.1;rw [HL.out.2] at l1 l2;have l3:=HP.out.2.2.1.2.1;have l4:=HP.out.2.2.2.2.1;unfold maxLen at l3 l4
     obtain ⟨p1,o1,rfl,u0⟩:∃p o,aG=some ⟨p,o,none⟩/\wr.cell? ⟨p,o+y,none⟩=some (.int .i64 (pg.getD y 0)):=by
      rcases (HP.out.2.2.1.below HI.out).2.2 with h|⟨p,o,e,h⟩
      ·have:=HL.out.2;rw [h] at this;simp at this;omega
      ·exact ⟨p,o,e,h y (by have:=HL.out.2;omega)⟩
     obtain ⟨p2,o2,rfl,v0⟩:∃p o,bG=some ⟨p,o,none⟩/\wr.cell? ⟨p,o+y,none⟩=some (.int .i64 (pg.getD y 0)):=by
      rcases (HP.out.2.2.2.below HI.out).2.2 with h|⟨p,o,e,h⟩
      ·have:=HL.out.2;rw [h] at this;simp at this;omega
      ·exact ⟨p,o,e,h y (by have:=HL.out.2;omega)⟩
     obtain ⟨q,hq⟩:∃q,pg.getD y 0=q:=⟨_,rfl⟩;rw [hq] at u0 v0;clear hq;go_wp2_with fail
     go_region
     go_wp2;go_roundg (n4-(y+1))
     case rel=>exact ⟨y+1,by omega,rfl,by go_num,HI.out.drew⟩
     case measure=>have:=HGK.out;omega
    ·obtain rfl:y=n4:=by omega
     have HE:Hid (Below w.heap.size w wr):=H2.out.trans (HI.out.mono H2.out.size);clear HI HGK hy hlt HP;go_wp2;go_ret
     exact ⟨rfl,HE.out⟩
set_option maxRecDepth 20000 in
theorem lsame_yes {w:World} {F G:Nat->Prop} {B:Nat} {v v':Value} {R:Rp} (h1:RepP F G w v R) (h2:RepIs B w v' R):
  Calls prog 68 #[v,v'] w fun e w'=>e=.returned (.bool true)/\Below w.heap.size w w':=by
 obtain ⟨aP,cP,aT,cT,aS,cS,aG,cG,rfl,p1,p2,p3,p4,-⟩:=h1;obtain ⟨bP,dP,bT,dT,bS,dS,bG,dG,rfl,q1,q2,q3,q4,-⟩:=h2;obtain ⟨n1,e1⟩:∃n1,R.pc.length=n1:=⟨_,rfl⟩;obtain ⟨n2,e2⟩:∃n2,R.tx.length=n2:=⟨_,rfl⟩;obtain ⟨n3,e3⟩:∃n3,R.st.length=n3:=⟨_,rfl⟩;obtain ⟨n4,e4⟩:∃n4,R.pg.length=n4:=⟨_,rfl⟩;rw [e1,e2,e3,e4];have C:=fun (w1:World) (hb:Below w.heap.size w w1)=>rsame_yes (w:=w1) (S:=R.s) (pl:=R.pl) (h:=0) (h':=R.h) (p1.below hb) (q1.below hb) (p2.below hb) (q2.below hb) (p3.below hb) (q3.below hb) (p4.below hb) (q4.below hb) e1 e2 e3 e4
 have HC:Hid _:=C;have HB:Hid (Below w.heap.size w ((w.alloc (.cells (rpP R.s R.pl (.slice aP n1 cP) (.slice aT n2 cT) (.slice aS n3 cS) (.slice aG n4 cG)) 85)).alloc (.cells (rpC R.s R.pl (.slice bP n1 dP) (.slice bT n2 dT) (.slice bS n3 dS) (.slice bG n4 dG) R.h) 95))):=((Below.refl _ w).alloc (jB _) _).alloc (by simp) _;have C0:=C _ HB.out;unfold rpP rpC at*;clear C p1 p2 p3 p4 q1 q2 q3 q4 e1 e2 e3 e4 HC;go_enter func68,ntmps68
 go_wp2_with fail
 refine C0.mono ?_;rintro e w2 ⟨rfl,hb2⟩;have HE:Hid (Below w.heap.size w w2):=HB.out.trans (hb2.mono HB.out.size);clear hb2 HB C0;go_wp2;go_ret
 exact ⟨rfl,HE.out⟩
attribute [local go_sem ↓] KP GY GX LdR_eq
theorem vV {L:List Int} {N:Nat} (hL:Bys L) (hl:L.length=N*256) (hN:N<=4096) (ho:oaE L=0) (hr:(oaR L).s.r=0):
  ∃S P R2 R3 st fr,chS (pageOf L 0) (pageOf L 1)=S/\chP (pageOf L 0) (pageOf L 1)=P/\chE (pageOf L 0) (pageOf L 1)=0/\S.p=(N:Int)/\S.r=0/\chB L (N+1) S.s (rN L) []=some (R2,st)/\chB L (N+1) S.f R2 []=some (R3,fr)/\fr=usedL R3/\oaR L=⟨S,P,[],[],st,rsB R3 N,S.h⟩:=by
 have hpn:pgN L=N:=by unfold pgN;omega
 have hE:chE (pageOf L 0) (pageOf L 1)=0:=by
  unfold oaE opX at ho;by_cases h:chE (pageOf L 0) (pageOf L 1)=0
  ·exact h
  ·rw [if_neg h] at ho;exact ho
 have hw:waE L (chS (pageOf L 0) (pageOf L 1))=0:=by
  unfold oaE opX at ho;rw [if_pos hE] at ho;by_cases h:waE L (chS (pageOf L 0) (pageOf L 1))=0
  ·exact h
  ·rw [if_neg h] at ho;cases ho
 have e1:oaR L={waR L (chS (pageOf L 0) (pageOf L 1)) with pl:=chP (pageOf L 0) (pageOf L 1)}:=by unfold oaR;rw [if_pos ho]
 rcases su_wa hL (by omega) (ch_ok hE) with ⟨_,h2⟩|⟨h1,_⟩
 ·obtain ⟨hp,T,R2,st,R3,fr,hT,c1,c2,hu,e2⟩:=h2;rw [hpn] at hp c1 c2 e2
  have hr0:(chS (pageOf L 0) (pageOf L 1)).r=0:=by
   rw [e1,e2] at hr;exact hr
  have hT0:T=tc0:=by
   have:=hT.t;unfold suT at this;rw [if_pos hr0] at this;exact (yH this).symm
  subst hT0;have hm:mkR (rN L) (tc0.tp++pgs tc0.pc)=rN L:=gY _;rw [hm] at c1;refine ⟨_,_,R2,R3,st,fr,rfl,rfl,hE,hp,hr0,c1,c2,hu,?_⟩;rw [e1,e2];rfl
 ·rw [hw] at h1;cases h1
def OpE1 (w:World) (d:Nat) (FD:Nat->Prop) (D0:Dv) (N:Nat) (r:Rp) (e:Ending) (w':World):Prop:=
 ∃v k,e=.returned (.tuple #[v,.int .i64 0])/\k<=N+2/\Dev w' d FD (rdK D0 k)/\Ch w.heap.size FD w w'/\RepP FD (fun k=>FD k\/w.heap.size<=k) w' v r
set_option maxRecDepth 20000 in
theorem open0 {w:World} {d N:Nat} {FD:Nat->Prop} {D0:Dv} {L:List Int} (hd:Dev w d FD D0) (hwl:Well D0) (hL:D0.now=L) (hN:D0.n=N) (hops:D0.ops<=999999999990) (ho:oaE L=0) (hr:(oaR L).s.r=0):
  Calls prog 66 #[.pointer (some ⟨d,0,none⟩)] w fun e w'=>OpE1 w d FD D0 N (oaR L) e w':=by
 have h4:=hd.1.n4;have hnow:=hd.1.now;have hby:=hd.1.bnow;rw [hL] at hnow hby;rw [hN] at h4 hnow;obtain ⟨S,P,R2,R3,st,fr,q1,q2,q3,q4,q5,q6,q7,q8,q9⟩:=vV hby hnow h4 ho hr;rw [q9];have HB0:Hid (Below w.heap.size w (w.alloc (.cells rpt0 85))/\(w.alloc (.cells rpt0 85)).heap[w.heap.size]?=some (.cells rpt0 85 (0,0))/\(w.alloc (.cells rpt0 85)).heap.size=w.heap.size+1):=⟨(Below.refl _ w).alloc (jB _) _,heap_alloc_new w _,zE w _⟩;have HFL:Hid (∀k,FD k->k<w.heap.size):=hd.2.1;have hch:=chains0 (hd.below HB0.out.1) hwl hL hN hops S P q1 q2 q3 q4 q5 q6 q7 q8;obtain ⟨cq,hcq⟩:∃cq,chQ L (N+1) S.s++chQ L (N+1) S.f=cq:=⟨_,rfl⟩;rw [hcq] at hch;clear hd hwl hL hN hops ho hr h4 hnow hby q1 q2 q3 q4 q5 q6 q7 q8 q9 hcq;rw [XH] at hch HB0;obtain ⟨w0,hw0⟩:∃w0,w.alloc (.cells #[.int .i64 0,.int .i64 0,.int .i64 0,.int .i64 0,.int .i64 0,.int .i64 0,.int .i64 0,.int .i64 0,.int .i64 0,.slice none 0 0,.slice none 0 0,.slice none 0 0,.slice none 0 0] 85)=w0:=⟨_,rfl⟩;rw [hw0] at hch HB0;go_enter func66,ntmps66
 go_upto_region 1 with fail
 clear hw0;go_wp2_with fail
 refine hch.mono ?_;clear hch;rintro e w5 ⟨v,k,aC,cC,rfl,hk,hdv,hch,hrep,hown⟩;obtain ⟨aP,cP,aT,cT,aS,cS,aG,cG,rfl,hrest⟩:=id hrep;simp only at hrep hrest ⊢;obtain ⟨cs,hcs⟩:∃cs,rpP S P (.slice aP ([]:List C4).length cP) (.slice aT ([]:List Int).length cT) (.slice aS st.length cS) (.slice aG (rsB R3 N).length cG)=cs:=⟨_,rfl⟩;have hrb:¬FD w.heap.size:=fun h=>by have:=HFL.out _ h;omega
 have hr5:=(hch.block w.heap.size (by have:=HB0.out.2.2;omega) hrb).trans HB0.out.2.1;have hcz:cs.size=13/\cs.all (·.oneCell')=true:=by rw [<-hcs];exact ⟨rfl,QY ..⟩
 rw [<-XH] at hr5;obtain ⟨f1,f2,f3,f4⟩:=fill_new (cs:=cs) hr5 hcz.1 hcz.2;rw [XH] at f1 f2 f4;rw [show (w5.alloc (.cells rpt0 85))=(w5.alloc (.cells #[.int .i64 0,.int .i64 0,.int .i64 0,.int .i64 0,.int .i64 0,.int .i64 0,.int .i64 0,.int .i64 0,.int .i64 0,.slice none 0 0,.slice none 0 0,.slice none 0 0,.slice none 0 0] 85)) from rfl] at f3;obtain ⟨w6,hw6⟩:∃w6,(w5.alloc (.cells #[.int .i64 0,.int .i64 0,.int .i64 0,.int .i64 0,.int .i64 0,.int .i64 0,.int .i64 0,.int .i64 0,.int .i64 0,.slice none 0 0,.slice none 0 0,.slice none 0 0,.slice none 0 0] 85)).setRow w5.heap.size cs=w6:=⟨_,rfl⟩;rw [hw6] at f1 f2 f3 f4;have hld:=uY f2 hcz.1;have hst2:=QO (cs:=cs) f3 rfl hcz.1 hcz.2
 have HE:Hid ((w6.setRow w.heap.size cs).heap[w.heap.size]?=some (.cells cs 85 (0,0))/\cs.size=13/\OpE1 w d FD D0 N ⟨S,P,[],[],st,rsB R3 N,S.h⟩ (.returned (.tuple #[.agg cs,.int .i64 0])) (w6.setRow w.heap.size cs)):=by
  have hc8:Ch w5.heap.size (fun x=>x=w.heap.size) w5 (w6.setRow w.heap.size cs):=(Ch.of (fun x=>x=w.heap.size) f4).setRow (.inr rfl) _;have h05:=hch.size;have hs0:=HB0.out.2.2;refine ⟨setRow_heap _ _ _ _ _ _ f3,hcz.1,.agg cs,k,rfl,hk,hdv.keep hc8.size (fun g hg=>hc8.block g (hdv.2.1 g hg) (fun e=>hrb (e▸hg))),?_,?_⟩
  ·refine (Ch.of FD HB0.out.1).trans ((hch.mono (by omega) (fun _ _ h=>h)).trans (hc8.mono (by omega) (fun g hg e=>?_)));omega
  ·have hrep2:=RepP.keep (G':=fun k=>FD k\/w.heap.size<=k) hrep hc8.size (fun g hg hn hl=>hc8.block g hl (fun e=>by
     rcases hg with h|h
     ·exact hn h
     ·omega)) (fun g hg=>by
     rcases hg with h|h
     ·exact .inl h
     ·right;omega)
   rw [hcs] at hrep2;exact hrep2
 rw [hcs];clear hrep hrest hdv hch hk f2 f3 f4 hr5 hcs hw6 hown hrb hcz HB0;go_wp2;refine bodyPost_ret (yU rfl _ _ w.heap.size _ _ (0,0) _ rfl HE.out.1 underlying85 rfl (by rw [HE.out.2.1];kernel_rfl)) rfl ?_;exact HE.out.2.2
theorem RepP.keepN {F G:Nat->Prop} {w w':World} {v:Value} {R:Rp} (h:RepP F G w v R) (hs:w.heap.size<=w'.heap.size) (k:∀g,¬F g->g<w.heap.size->w'.heap[g]?=w.heap[g]?):RepP F G w' v R:=
 h.keep hs (fun g _ hn hl=>k g hn hl) (fun _ h=>h)
set_option maxRecDepth 20000 in
theorem whole_any {w:World} {d N:Nat} {FD:Nat->Prop} {D0:Dv} {L:List Int} (hd:Dev w d FD D0) (hwl:Well D0) (hL:D0.now=L) (hN:D0.n=N) (hops:D0.ops<=999999999990) (ho:oaE L=0) (hr:(oaR L).s.r=0) (a:Option Addr) (cap n:Nat) (zs:List Int) (hz:Row w a cap zs) (hza:zs=[]\/∀k,obl a k->k<w.heap.size/\¬FD k) (hn:zs.length=n) (bq:Bool) (hbq:sameB (oaR L).st zs=bq):
  Calls prog 21 #[.pointer (some ⟨d,0,none⟩),.slice a n cap] w fun e w'=>e=.returned (.bool bq)/\(∃k,k<=N+2/\Dev w' d FD (rdK D0 k))/\Ch w.heap.size FD w w':=by
 have h4:=hd.1.n4;have h8:=hd.1.n8;have hnow:=hd.1.now;have hby:=hd.1.bnow;rw [hL] at hnow hby;rw [hN] at h4 h8 hnow;have hop:=open0 hd hwl hL hN hops ho hr;obtain ⟨S,P,R2,R3,st,fr,q1,q2,q3,q4,q5,q6,q7,q8,q9⟩:=vV hby hnow h4 ho hr;have HZ0:Hid ((chS (pageOf L 0) (pageOf L 1)).r=0):=by show _=_;rw [q1];exact q5
 have HL:Hid (D0.now=L/\L.length=256*N/\N<=4096/\8<=N/\oaE L=0/\zs.length=n/\Row w a cap zs/\(zs=[]\/∀k,obl a k->k<w.heap.size/\¬FD k)/\Bys L):=⟨hL,by omega,h4,h8,ho,hn,hz,hza,hby⟩;obtain ⟨R,hR⟩:∃R,oaR L=R:=⟨_,rfl⟩;rw [hR] at hop hbq;have HR:Hid (oaR L=R):=hR;have HBQ:Hid (sameB R.st zs=bq):=hbq;clear hd hwl hL hN hops ho hr h4 h8 hnow hby q1 q2 q3 q4 q5 q6 q7 q8 q9 hz hza hn hR hbq;go_enter func21,ntmps21
 go_wp2_with fail
 refine hop.mono ?_;clear hop;rintro e w1 ⟨v,k,rfl,hk,hdv,hch,hrep⟩;obtain ⟨aP,cP,aT,cT,aS,cS,aG,cG,rfl,hrest⟩:=id hrep;obtain ⟨cs,hcs⟩:∃cs,rpP R.s R.pl (.slice aP R.pc.length cP) (.slice aT R.tx.length cT) (.slice aS R.st.length cS) (.slice aG R.pg.length cG)=cs:=⟨_,rfl⟩;have hcz:cs.size=13/\cs.all (·.oneCell')=true:=by rw [<-hcs];exact ⟨rfl,QY ..⟩
 rw [hcs] at hrep ⊢;have f1:=QO (w:=w1.alloc (.cells rpt0 85)) (heap_alloc_new w1 _) rfl hcz.1 hcz.2;have f2:((w1.alloc (.cells rpt0 85)).setRow w1.heap.size cs).heap[w1.heap.size]?=some (.cells cs 85 (0,0)):=setRow_heap _ _ _ _ _ _ (heap_alloc_new w1 _);have f3:Below w1.heap.size w1 ((w1.alloc (.cells rpt0 85)).setRow w1.heap.size cs):=((Ch.of (fun _=>False) ((Below.refl _ w1).alloc (jB _) _)).setRow (.inl (jB _)) _).below (fun k e=>by cases e);rw [XH] at f1 f2 f3;obtain ⟨w2,hw2⟩:∃w2,(w1.alloc (.cells #[.int .i64 0,.int .i64 0,.int .i64 0,.int .i64 0,.int .i64 0,.int .i64 0,.int .i64 0,.int .i64 0,.int .i64 0,.slice none 0 0,.slice none 0 0,.slice none 0 0,.slice none 0 0] 85)).setRow w1.heap.size cs=w2:=⟨_,rfl⟩;rw [hw2] at f1 f2 f3
 have H2:Hid (Dev w2 d FD (rdK D0 k)/\Ch w.heap.size FD w w2/\RepP FD (fun k=>FD k\/w.heap.size<=k) w2 (.agg cs) R/\w2.heap[w1.heap.size]?=some (.cells cs 85 (0,0))/\w.heap.size<=w1.heap.size/\k<=N+2/\cs.size=13):=
  ⟨hdv.below f3,hch.trans (Ch.of FD (f3.mono hch.size)),hrep.keepN f3.size (fun g _ hl=>f3.block g hl),f2,hch.size,hk,hcz.1⟩
 have him:=image_any H2.out.1;rw [(QL D0 k).1,HL.out.1] at him;clear hrep hrest hdv hch hk f2 f3 hcs hcz;go_upto_region 2 with fail
 clear f1 hw2;go_wp2_with fail
 refine him.mono ?_;clear him;rintro e w3 ⟨g,c,rfl,ho3,hb3⟩;have hro:=raopen_any (some ⟨g,0,none⟩) c N L w3 (ho3.row' HL.out.2.2.2.2.2.2.2.2).2 HL.out.2.1 HL.out.2.2.2.1 HL.out.2.2.1 0 HL.out.2.2.2.2.1 R HR.out HZ0.out;have H3:Hid (Below w2.heap.size w2 w3):=hb3;clear ho3 hb3;go_wp2_with fail
 refine hro.mono ?_;clear hro;rintro e w4 ⟨⟨v',rfl,hrep'⟩,hb4⟩;obtain ⟨bP,dP,bT,dT,bS,dS,bG,dG,rfl,p1,p2,p3,p4,p5⟩:=id hrep';obtain ⟨cx,hcx⟩:∃cx,rpC R.s R.pl (.slice bP R.pc.length dP) (.slice bT R.tx.length dT) (.slice bS R.st.length dS) (.slice bG R.pg.length dG) R.h=cx:=⟨_,rfl⟩;have hcz:cx.size=14/\cx.all (·.oneCell')=true:=by rw [<-hcx];exact ⟨rfl,VS ..⟩
 have hc11:cx[11]?=some (.slice bS R.st.length dS):=by rw [<-hcx];rfl
 rw [hcx] at hrep' ⊢;have f1:=StR_new w4 hcz.1 hcz.2;have f2:((w4.alloc (.cells rp0C 95)).setRow w4.heap.size cx).heap[w4.heap.size]?=some (.cells cx 95 (0,0)):=setRow_heap _ _ _ _ _ _ (heap_alloc_new w4 _);have f3:Below w4.heap.size w4 ((w4.alloc (.cells rp0C 95)).setRow w4.heap.size cx):=((Ch.of (fun _=>False) ((Below.refl _ w4).alloc (jB _) _)).setRow (.inl (jB _)) _).below (fun k e=>by cases e);rw [UQ] at f1 f2 f3;obtain ⟨w5,hw5⟩:∃w5,(w4.alloc (.cells #[.int .i64 0,.int .i64 0,.int .i64 0,.int .i64 0,.int .i64 0,.int .i64 0,.int .i64 0,.int .i64 0,.int .i64 0,.slice none 0 0,.slice none 0 0,.slice none 0 0,.slice none 0 0,.int .i64 0] 95)).setRow w4.heap.size cx=w5:=⟨_,rfl⟩;rw [hw5] at f1 f2 f3
 have H5:Hid (Dev w5 d FD (rdK D0 k)/\Ch w.heap.size FD w w5/\RepP FD (fun k=>FD k\/w.heap.size<=k) w5 (.agg cs) R/\w5.heap[w1.heap.size]?=some (.cells cs 85 (0,0))/\RepIs w3.heap.size w5 (.agg cx) R/\w5.heap[w4.heap.size]?=some (.cells cx 95 (0,0))/\Row w5 bS dS R.st/\cx.size=14):=by
  have h23:=H3.out.size;have h34:=hb4.size;have hb25:Below w2.heap.size w2 w5:=(H3.out.trans (hb4.mono h23)).trans (f3.mono (by omega));exact ⟨H2.out.1.below hb25,H2.out.2.1.trans (Ch.of FD (hb25.mono H2.out.2.1.size)),H2.out.2.2.1.keepN hb25.size (fun g _ hl=>hb25.block g hl),(hb25.block _ (yR H2.out.2.2.2.1)).trans H2.out.2.2.2.1,hrep'.below f3,f2,p3.below f3,hcz.1⟩
 have hld:=uY H5.out.2.2.2.1 H2.out.2.2.2.2.2.2;have hlr:=LdR_run H5.out.2.2.2.2.2.1 hcz.1;have hsm:=lsame_yes H5.out.2.2.1 H5.out.2.2.2.2.1;have c11:w5.cell? ⟨w4.heap.size,11,none⟩=some (.slice bS R.st.length dS):=by rw [cell_of_row w5 _ _ _ _ (0,0) H5.out.2.2.2.2.2.1];exact hc11
 have HC11:Hid (cx[11]?=some (.slice bS R.st.length dS)):=hc11;clear hrep' p1 p2 p3 p4 p5 f2 f3 hcx hcz hc11 hb4;go_upto_region 3 with fail
 clear f1 hw5;go_wp2_with fail
 refine hsm.mono ?_;clear hsm;rintro e w6 ⟨rfl,hb6⟩;have c11':w6.cell? ⟨w4.heap.size,11,none⟩=some (.slice bS R.st.length dS):=(hb6.cell (p:=⟨w4.heap.size,11,none⟩) (yR H5.out.2.2.2.2.2.1)).trans c11;have hch6:Ch w.heap.size FD w w6:=H5.out.2.1.trans (Ch.of FD (hb6.mono H5.out.2.1.size))
 have hzr:Row w6 a cap zs:=by
  have h1:=HL.out.2.2.2.2.2.2.1;rcases HL.out.2.2.2.2.2.2.2.1 with e|hh
  ·exact ⟨h1.1,h1.2.1,h1.2.2.1,.inl e⟩
  ·exact h1.keepO (fun g hg=>hch6.block g (hh g hg).1 (hh g hg).2)
 have hs2:=VP bS a dS cap R.st zs w6 (H5.out.2.2.2.2.2.2.1.below hb6) hzr;rw [HBQ.out,HL.out.2.2.2.2.2.1] at hs2;have H6:Hid (Dev w6 d FD (rdK D0 k)/\Ch w.heap.size FD w w6):=⟨H5.out.1.below hb6,hch6⟩;clear hb6 hzr hch6 c11 hld hlr;go_wp2_with fail
 refine hs2.mono ?_;clear hs2;rintro e w7 ⟨rfl,hb7⟩;have H7:Hid ((∃k,k<=N+2/\Dev w7 d FD (rdK D0 k))/\Ch w.heap.size FD w w7):=⟨⟨k,H2.out.2.2.2.2.2.1,H6.out.1.below hb7⟩,H6.out.2.trans (Ch.of FD (hb7.mono H6.out.2.size))⟩;clear hb7;go_wp2;go_ret
 exact ⟨rfl,H7.out⟩
end Go.Proofs.YtaijfhadecennaaGreat.Oct
namespace Go.Proofs.YtaijfhadecennaaGreat.Oct.Sx
open Go.RowKit
structure Lv (w:World) (B s d n c:Nat) (X:St) (pl:Nat) (r:Rp) (T:List (Sp × Rp)) (last:List Int) (tr:List (List Int)):Prop where
 sto:∃F,Sto w s d F X/\∀k,F k->B<=k
 i:In X.D X.N X.L X.P X.S pl X.C X.g r T
 pl:X.pl=(pl:Int)
 dn:X.D.n=n
 ops:X.D.ops<=c
 since:X.D.since.length<=c
 g:X.g<=(c:Int)
 st:r.st=last
 rr:r.s.r=0
 tr:∀y∈T,y.2.s.r=0/\y.2.st∈tr
structure LvW (n:Nat) (X:St) (pl:Nat) (r:Rp) (T:List (Sp × Rp)):Prop where
 well:Well X.D
 T0:T=[]
 zo:∀k,k<n->X.P.getD k 0=0\/X.P.getD k 0=1
 gs:X.S.g=X.g
 cl:X.C.length=r.pg.length
 rs:r.s=X.S
 rc:∀z,z∈r.pg↔z∈X.C
section
variable {w:World} {B s d n c:Nat} {X:St} {pl:Nat} {r:Rp} {T:List (Sp × Rp)} {last:List Int} {tr:List (List Int)}
theorem Lv.keep {w':World} (h:Lv w B s d n c X pl r T last tr) (hb:Below w.heap.size w w'):Lv w' B s d n c X pl r T last tr:=by
 obtain ⟨F,h1,h2⟩:=h.sto;exact {h with sto:=⟨F,h1.below hb,h2⟩}
def StF (w w':World) (B s d n c:Nat) (F F':Nat->Prop) (X:St) (pl:Nat) (r:Rp) (T:List (Sp × Rp)) (last:List Int) (tr:List (List Int)) (zs:List Int) (E:Int):Prop:=
 Step F F' w w'/\(∀k,F' k->B<=k)/\((E=6/\¬ned zs.length+ned ((n+7)/8)<=X.P.count 0/\Lv w' B s d n c X pl r T last tr/\Sto w' s d F' X)\/
  (E=7/\∃X' T',Lv w' B s d n (c+12000) X' pl r T' last (zs::tr)/\Sto w' s d F' X'/\Bad X.D X'.D/\Mo X.D X'.D/\X'.P.count 0+10≥X.P.count 0/\X'.N=X.N/\(T'=T\/∃y,T'=y::T/\y.2.st=zs))\/
  (E=0/\∃X' r',Lv w' B s d n (c+12000) X' (1-pl) r' [] zs []/\Sto w' s d F' X'/\Mo X.D X'.D/\X'.g=X.g+1/\X'.S.g=X'.g/\X'.N=X.N/\r'.s=X'.S/\X'.C.length=r'.pg.length/\(∀k,k<n->X'.P.getD k 0=0\/X'.P.getD k 0=1)/\(∀z,z∈r'.pg↔z∈X'.C)/\X'.P.count 0+12≥n))
theorem fS {k:Nat} (h:k<=1500):ned k<=7:=by unfold ned;omega
theorem KE (h:Lv w B s d n c X pl r T last tr) {F:Nat->Prop} (h1:Sto w s d F X) (h2:∀k,F k->B<=k) (a:Option Addr) (cap:Nat) (zs:List Int) (hr:Row w a cap zs) (hu:zs=[]\/∀k,obl a k->k<w.heap.size/\¬F k) (hB:B<=w.heap.size) (hz:zs.length<=1500) (hc:c<=880000):
  Calls prog 45 #[.pointer (some ⟨s,0,none⟩),spV (sup 0 0 0 0),.slice a zs.length cap] w fun e w'=>∃E F',e=.returned (.int .i64 E)/\StF w w' B s d n c F F' X pl r T last tr zs E:=by
 have hg:=h.g;have hops:=h.ops;have hsi:=h.since;refine (Commit_any h1 h.i h.pl hr hu (by omega) (by omega) (by omega) (by omega)).mono ?_;rintro e w1 ⟨E,rfl,hE⟩;obtain ⟨X',pl',r',T',hR,hI,hpl,hA,hO⟩:=hE;obtain ⟨F',hs',st'⟩:=hO.out;obtain ⟨hbl,hF'⟩:=st'.below hB h2;refine ⟨E,F',rfl,st',hF',?_⟩;have hdn:=hA.n.trans h.dn;have ho:=hA.ops;have hop:=h.ops;have hsi:=h.since;have hgc:=h.g;have e1:=h.i.pi.len;rcases hR with ⟨rfl,e,_⟩|⟨rfl,hno,rfl,rfl,rfl,rfl⟩|⟨rfl,hm,hbad,hX,rfl,rfl,rfl⟩|⟨rfl,hm,hbad,hX,rfl,rfl,rfl⟩|⟨rfl,hm,hX,rfl,rfl,rfl⟩
 ·omega
 ·exact .inl ⟨rfl,by rw [<-h.dn];exact hno,{h with sto:=⟨F',hs',hF'⟩},hs'⟩
 ·refine .inr (.inl ⟨rfl,X',T',⟨⟨F',hs',hF'⟩,hI,hpl,hdn,by omega,by omega,by rw [hX];show X.g<=_;omega,h.st,h.rr,fun y hy=>⟨(h.tr y hy).1,jM _ (h.tr y hy).2⟩⟩,hs',hbad,hA.mo,by rw [hX];show X.P.count 0+10≥X.P.count 0;omega,by rw [hX],.inl rfl⟩)
 ·refine .inr (.inl ⟨rfl,X',_,⟨⟨F',hs',hF'⟩,hI,hpl,hdn,by omega,by omega,by rw [hX];show X.g+1<=_;omega,h.st,h.rr,fun y hy=>?_⟩,hs',hbad,hA.mo,?_,by rw [hX],.inr ⟨_,rfl,rfl⟩⟩)
  ·rcases List.mem_cons.1 hy with rfl|hy
   ·exact ⟨rfl,yB ..⟩
   ·exact ⟨(h.tr y hy).1,jM _ (h.tr y hy).2⟩
  ·rw [hX];show (dbS X.P _).count 0+10≥X.P.count 0;have h3:=(h.i.pi.doubt hm).2.1;have h4:=fS hz;have h5:ned ((X.D.n+7)/8)<=3:=by have:=h.i.jv.ok.n4;unfold ned;omega
   unfold dbS;omega
 ·have hdn2:=h.i.pi.done hm;obtain ⟨p1,p2,_⟩:=h.i.pi.pg hm;have htd:(tkG (ned zs.length+ned ((X.D.n+7)/8)) X.P).take (ned zs.length)++(tkG (ned zs.length+ned ((X.D.n+7)/8)) X.P).drop (ned zs.length)=tkG (ned zs.length+ned ((X.D.n+7)/8)) X.P:=xE _ _;refine .inr (.inr ⟨rfl,X',_,⟨⟨F',hs',hF'⟩,hI,hpl,hdn,by omega,by omega,by rw [hX];show X.g+1<=_;omega,rfl,rfl,fun y hy=>by cases hy⟩,hs',hA.mo,by rw [hX],by rw [hX];rfl,by rw [hX],by rw [hX];rfl,?_,fun k hk=>?_,fun z=>?_,?_⟩)
  ·rw [hX];show (tkG _ X.P).length=(rsB (reaL X.D.n [] _ _) X.D.n).length;rw [rea_len (by rw [htd];exact p1) (by rw [htd];exact p2),<-jN,htd]
  ·rw [hX];exact hdn2.2 k (by rw [h.dn];exact hk)
  ·rw [hX];show z∈rsB (reaL X.D.n [] _ _) X.D.n↔z∈tkG _ X.P;rw [rea_iff (by rw [htd];exact p1) (by rw [htd];exact p2),htd]
  ·have hfree:X'.P.count 0+2+X'.C.length=n:=by
    have h3:=hI.pi;rw [hdn] at h3;exact h3.free (fun k hk=>by rw [hX];exact hdn2.2 k (by rw [h.dn];exact hk))
   have hcl:X'.C.length<=10:=by
    rw [hX];show (tkG _ X.P).length<=10;rw [zA];have h4:=fS hz;have h5:ned ((X.D.n+7)/8)<=3:=by have:=h.i.jv.ok.n4;unfold ned;omega
    omega
   omega
theorem step_lv (h:Lv w B s d n c X pl r T last tr) {F:Nat->Prop} (h1:Sto w s d F X) (h2:∀k,F k->B<=k) (a:Option Addr) (cap:Nat) (zs:List Int) (hr:Row w a cap zs) (hu:zs=[]\/∀k,obl a k->k<w.heap.size/\¬F k) (hB:B<=w.heap.size) (hz:zs.length<=1500) (hc:c<=880000):
  Calls prog 37 #[.pointer (some ⟨s,0,none⟩),.slice a zs.length cap] w fun e w'=>∃E F',e=.returned (.int .i64 E)/\StF w w' B s d n c F F' X pl r T last tr zs E:=by
 have hcm:=KE h h1 h2 a cap zs hr hu hB hz hc;unfold spV sup at hcm;clear h h1 h2 hr hu hz hB hc;go_enter func37,ntmps37
 go_wp2_with (go_at_call 45;refine hcm.mono ?_;rintro e w1 ⟨E,F',rfl,hE⟩)
 go_ret
 exact ⟨E,F',rfl,hE⟩
end
end Go.Proofs.YtaijfhadecennaaGreat.Oct.Sx
namespace Go.Proofs.YtaijfhadecennaaGreat.Oct.Sx
open Go.RowKit
theorem opn2 {L:List Int} {N:Nat} (hL:Bys L) (hl:L.length=N*256) (hN:N<=4096) (ho:oaE L=0) (hr:(oaR L).s.r=0):
  ∃S P R2 R3 st fr,chS (pageOf L 0) (pageOf L 1)=S/\chP (pageOf L 0) (pageOf L 1)=P/\chE (pageOf L 0) (pageOf L 1)=0/\S.p=(N:Int)/\S.r=0/\chB L (N+1) S.s (rN L) []=some (R2,st)/\chB L (N+1) S.f R2 []=some (R3,fr)/\fr=usedL R3/\oaR L=⟨S,P,[],[],st,rsB R3 N,S.h⟩/\
   Ld2 N (chQ L (N+1) S.s++chQ L (N+1) S.f) R3/\(0<=S.s/\S.s<N)/\Bys st:=by
 obtain ⟨S,P,R2,R3,st,fr,a1,a2,a3,a4,a5,a6,a7,a8,a9⟩:=vV hL hl hN ho hr;have hok:okS S=true:=by rw [<-a1];exact ch_ok a3
 have hS':=hok;unfold okS fitS ldB at hS';simp only [jO,jR] at hS';have hs2:S.s=0\/2<=S.s:=by omega
 have hf2:S.f=0\/2<=S.f:=by omega
 have hp:pgN L=N:=by unfold pgN;omega
 exact ⟨S,P,R2,R3,st,fr,a1,a2,a3,a4,a5,a6,a7,a8,a9,ld_two hL hp hN hs2 hf2 a6 a7,by omega,(chB_bys hL _ _ _ _ _ (fun z hz=>by cases hz) a6).1⟩
structure Opd (N n:Nat) (D0:Dv) (r:Rp) (X:St):Prop where
 k:∃k,k<=n+2/\X.D=rdK D0 k
 fr:X.N=N
 L:X.L=[]
 S:X.S=r.s
 pl:X.pl=r.pl
 g:X.g=X.S.g
 sp:X.S.p=(n:Int)
 ld:∃R3,Ld2 n X.C R3/\X.P=ldS (usedL R3) n/\r.pg=rsB R3 n
section
variable {w:World} {d N n:Nat} {Fd:Nat->Prop} {D0:Dv}
theorem Open_oa (h:Dev w d Fd D0) (h8N:8<=N) (h4N:N<=4096) (hn:D0.n=n) (hw:Well D0) (hok:D0.ok) (hops:D0.ops<=999999990) (ho:oaE D0.now=0) (hr:(oaR D0.now).s.r=0):
  Calls prog 12 #[.pointer (some ⟨d,0,none⟩),.int .i64 N] w fun e w'=>∃s X,e=.returned (.tuple #[.pointer (some ⟨s,0,none⟩),.int .i64 0])/\StoO w w' Fd s d X/\Opd N n D0 (oaR D0.now) X:=by
 have h4:=hok.n4;have hnw:=hok.now;rw [hn] at h4 hnw;obtain ⟨S,P,R2,R3,st,fr,a1,a2,a3,a4,a5,a6,a7,a8,a9,a10,_,_⟩:=opn2 hok.bnow hnw h4 ho hr;refine (Open_yes h h8N h4N hn hw hok hops rfl S P a1 a2 a3 a4 a5 a6 a7 a8 a10).mono ?_;rintro e w' ⟨s,k,rfl,hk,hO⟩;refine ⟨s,_,rfl,hO,⟨⟨k,hk,rfl⟩,rfl,rfl,?_,?_,rfl,a4,R3,a10,rfl,?_⟩⟩
 all_goals rw [a9]
end
theorem reopen {D:Dv} {S:Sp} {pl:Nat} {r:Rp} {n N:Nat} {ch:List Int} {X':St} (hJ:Jv D S pl r []) (hn:D.n=n) (hrs:r.s=S) (hX:Opd N n (crashD D ch) (oaR (crashD D ch).now) X'):
  In X'.D X'.N X'.L X'.P X'.S pl X'.C X'.g r []/\X'.pl=(pl:Int)/\X'.D.n=n/\X'.S=S/\(∀k,k<n->X'.P.getD k 0=0\/X'.P.getD k 0=1)/\(∀z,z∈r.pg↔z∈X'.C)/\Well X'.D/\X'.D.ops<=n+2/\X'.D.since=[]:=by
 obtain ⟨⟨k,hk,e1⟩,e2,e3,e4,e5,e6,e7,R3,e8,e9,e10⟩:=hX;obtain ⟨o1,o2⟩:=hJ.crash ch
 have e11:oaR (crashD D ch).now={r with pl:=(pl:Int)}:=by
  rcases o2 with o2|⟨y,hy,_⟩
  ·exact o2
  ·cases hy
 rw [e11] at e4 e5 e10;have hJ2:=hJ.crashed ch
 have hcn:(crashD D ch).n=n:=by
  have h1:=hJ2.ok.sure;have h2:(crashD D ch).sure.length=D.n*256:=(zX ..).trans hJ.ok.sure;omega
 have h8:=hJ.ok.n8;have h4:=hJ.ok.n4;rw [hn] at h8 h4;have hS:X'.S=S:=e4.trans hrs
 have hrc:∀z,z∈r.pg↔z∈X'.C:=fun z=>by
  have:r.pg=rsB R3 n:=e10;rw [this];exact e8.rs z
 have hpi:=e8.inv h8 h4;rw [<-e9] at hpi;have hI:=In.load hJ2 X'.N k (P:=X'.P) (C:=X'.C) (by rw [hcn];exact hpi) (fun z hz=>(hrc z).1 hz) (by rw [hcn,<-hS];exact e7);refine ⟨?_,e5,by rw [e1,UJ];exact hcn,hS,fun j hj=>by rw [e9];exact e8.zo j hj,hrc,?_,?_,?_⟩
 ·rw [e6,e3,e1,hS];exact hI
 ·rw [e1];exact (Well.new _:Well (crashD D ch)).mo (gJ _ k)
 ·rw [e1];have:=(uD (crashD D ch) k).1;have h0:(crashD D ch).ops=0:=rfl;omega
 ·rw [e1];have:=(uD (crashD D ch) k).2;have h0:(crashD D ch).since=[]:=rfl;rw [h0] at this;exact List.length_eq_zero_iff.1 (Nat.le_zero.1 this)
section
variable {w:World} {B s d n c:Nat} {X:St} {pl:Nat} {r:Rp} {T:List (Sp × Rp)} {last:List Int} {tr:List (List Int)}
theorem Lv.now (h:Lv w B s d n c X pl r [] last tr):oaE X.D.now=0/\oaR X.D.now={r with pl:=(pl:Int)}:=by
 obtain ⟨a,b⟩:=h.i.jv.nowOpen;refine ⟨a,?_⟩;rcases b with b|⟨y,hy,_⟩
 ·exact b
 ·cases hy
theorem Lv.fall (h:Lv w B s d n c X pl r T last tr) (ch:List Int):oaE (crashD X.D ch).now=0/\(oaR (crashD X.D ch).now).s.r=0/\((oaR (crashD X.D ch).now).st=last\/(T≠[]/\(oaR (crashD X.D ch).now).st∈tr)):=by
 obtain ⟨a,b⟩:=h.i.jv.crash ch;refine ⟨a,?_⟩;rcases b with b|⟨y,hy,b⟩
 ·rw [show (crashD X.D ch).now=fallK X.D.sure X.D.since ch X.D.since.length from rfl,b];exact ⟨h.rr,.inl h.st⟩
 ·rw [show (crashD X.D ch).now=fallK X.D.sure X.D.since ch X.D.since.length from rfl,b];exact ⟨(h.tr y hy).1,.inr ⟨fun e=>(by rw [e] at hy;cases hy),(h.tr y hy).2⟩⟩
theorem lvBytes (h:Lv w B s d n c X pl r [] last tr) (hv:LvW n X pl r []) (hB:B<=w.heap.size) (hc:c<=900000):
  Calls prog 38 #[.pointer (some ⟨s,0,none⟩),.int .i64 X.S.s] w fun e w'=>∃g cp X',e=.returned (.tuple #[.slice g last.length cp,.int .i64 0])/\Own w.heap.size w' (.slice g last.length cp) last/\Bys last/\Lv w' B s d n (c+8192) X' pl r [] last tr/\LvW n X' pl r []/\Below B w w'/\X'={X with D:=X'.D,L:=X'.L}:=by
 obtain ⟨F,h1,h2⟩:=h.sto;obtain ⟨o1,o2⟩:=h.now;have hno:=h.i.jv.ok.now;have h4:=h.i.jv.ok.n4;rw [h.dn] at hno h4;obtain ⟨S,P,R2,R3,st,fr,a1,a2,a3,a4,a5,a6,a7,a8,a9,a10,a11,a12⟩:=opn2 h.i.jv.ok.bnow hno h4 o1 (by rw [o2];exact h.rr);rw [o2] at a9;have hS:S=X.S:=by rw [<-hv.rs];exact (congrArg Rp.s a9).symm
 have hst:st=last:=by rw [<-h.st];exact (congrArg Rp.st a9).symm
 have hops:=h.ops;have hsi:=h.since;have hp:pgN X.D.now=n:=by unfold pgN;omega
 have hrN:rN X.D.now=List.replicate n false:=by unfold rN;rw [hp]
 rw [hS] at a6 a11;rw [hrN] at a6;refine (Bytes_any h1 h.i.fi h.i.nd hv.well (by omega) (by omega) X.S.s ⟨a11.1,by rw [h.dn];exact a11.2⟩ (R2,st) (by rw [h.dn];exact a6)).mono ?_;rintro e w' ⟨g,cp,X',F',k,rfl,b1,b2,b3,b4,b5,b6,b7⟩;dsimp only at b1 b2;obtain ⟨c1,c2⟩:=b5.below hB h2;have hac:=b6.ac.ops
 have hI:In X'.D X'.N X'.L X'.P X'.S pl X'.C X'.g r []:=by
  rw [b6.eq];have hfi:=b6.fi;rw [b6.eq] at hfi;exact h.i.acts (m:=0) (jT _) (b6.ac.mono (fun _ e=>e.elim) (jB _)) hfi b6.nd
 have hdn:X'.D.n=n:=b6.ac.n.trans h.dn;refine ⟨g,cp,X',by rw [hst],by rw [<-hst];exact b1,by rw [<-hst];exact b2,⟨⟨F',b4,c2⟩,hI,by rw [b6.eq];exact h.pl,hdn,by omega,by omega,by rw [b6.eq];have:=h.g;show X.g<=_;omega,h.st,h.rr,fun y hy=>by cases hy⟩,⟨hv.well.mo b6.ac.mo,rfl,by rw [b6.eq];exact hv.zo,by rw [b6.eq];exact hv.gs,by rw [b6.eq];exact hv.cl,by rw [b6.eq];exact hv.rs,by rw [b6.eq];exact hv.rc⟩,c1,b6.eq⟩
theorem Lv.free (h:Lv w B s d n c X pl r T last tr) (hv:LvW n X pl r T):X.P.count 0+2+X.C.length=n:=by
 have h1:=h.i.pi;rw [h.dn] at h1;exact h1.free hv.zo
theorem Lv.one (h:Lv w B s d n c X pl r T last tr) (hv:LvW n X pl r T) {k:Nat} (hk:k<n):X.P.getD k 0=if k<2\/(k:Int)∈X.C then 1 else 0:=by
 have h1:=h.i.pi.one k (by rw [h.dn];exact hk);split
 ·next a=>exact h1.2 a
 ·next a=>
  rcases hv.zo k hk with e|e
  ·exact e
  ·exact absurd (h1.1 e) a
theorem reopen_lv (h:Lv w B s d n c X pl r [] last tr) (hv:LvW n X pl r []) {ch:List Int} {N t q:Nat} {w':World} {X2:St} (hs:∃F,Sto w' t q F X2/\∀k,F k->B<=k) (hX:Opd N n (crashD X.D ch) (oaR (crashD X.D ch).now) X2) {c':Nat} (hc1:n+2<=c') (hc2:X.g<=(c':Int)):
  Lv w' B t q n c' X2 pl r [] last []/\LvW n X2 pl r []/\X2.P.count 0=X.P.count 0/\X2.S=X.S:=by
 obtain ⟨a1,a2,a3,a4,a5,a6,a7,a8,a9⟩:=reopen h.i.jv h.dn hv.rs hX;have h4:=h.i.jv.ok.n4;rw [h.dn] at h4;have hg:X2.g=X2.S.g:=hX.g;have hl:Lv w' B t q n c' X2 pl r [] last []:=⟨hs,a1,a2,a3,by omega,by rw [a9];exact jT _,by rw [hg,a4,hv.gs];exact hc2,h.st,h.rr,fun y hy=>by cases hy⟩;have l1:=a1.pi.len;have l2:=h.i.pi.len;rw [a3] at l1;rw [h.dn] at l2
 have hP:X2.P=X.P:=by
  refine yZ (by omega) fun i hi=>?_
  have hin:i<n:=by omega
  have e1:=a1.pi.one i (by rw [a3];exact hin);have e2:=h.one hv hin;rw [e2];have hcc:(i:Int)∈X2.C↔(i:Int)∈X.C:=by rw [<-a6,hv.rc]
  rw [hcc] at e1;split
  ·next b=>exact e1.2 b
  ·next b=>
   rcases a5 i hin with e|e
   ·exact e
   ·exact absurd (e1.1 e) b
 have f1:=a1.pi;rw [a3] at f1;have f2:=f1.free a5;have f3:=h.free hv;rw [hP] at f2;exact ⟨hl,⟨a7,rfl,a5,hg.symm,by have:=hv.cl;omega,by rw [a4];exact hv.rs,a6⟩,by rw [hP],a4⟩
end
end Go.Proofs.YtaijfhadecennaaGreat.Oct.Sx
