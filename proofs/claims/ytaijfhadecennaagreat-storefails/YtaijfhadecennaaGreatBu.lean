/- Part of a proof. -/
import Derived.Test.YtaijfhadecennaaGreatImx
import Derived.Test.YtaijfhadecennaaGreatUk
open Go.Proofs.Tryz
set_option maxHeartbeats 4000000
namespace Go.Proofs.YtaijfhadecennaaGreat.Oct
open Go.RowKit
attribute [local go_sem ↓] GX KO LdR_eq
set_option maxRecDepth 20000 in
theorem rwalk_go (a:Option Addr) (cap N:Nat) (L:List Int) (w:World) (hr:Row w a cap L) (hil:L.length=256*N) (hN8:8<=N) (h4:N<=4096) (S:Sp) (hS:okS S=true) (hp:S.p=(N:Int)) (E:Int) (hE:waE L S=E) (R:Rp) (hR:waR L S=R) (hr0:S.r=0):
  Calls prog 118 #[.slice a L.length cap,spV S] w fun e w'=>(∃v,e=.returned (.tuple #[v,.int .i64 E])/\RepIs w.heap.size w' v R)/\Below w.heap.size w w':=by
 have C:=XR S (bx w S);rw [show enE S=0 by unfold enE;rw [hS];rfl] at C;have HB:Hid (Below w.heap.size w (bx w S)/\(bx w S).heap.size=w.heap.size+2/\(bx w S).heap[w.heap.size+1]?=some (.cells rp0C 95 (0,0))/\(bx w S).heap[w.heap.size]?=some (.cells (spC S) 29 (0,0))):=⟨KM w S,GS w S,bx_r w S,bx_s w S⟩;have HL:Hid (L.length=256*N/\okS S=true/\Row w a cap L/\S.p=(N:Int)):=⟨hil,hS,hr,hp⟩;have HER:Hid (waE L S=E/\waR L S=R):=⟨hE,hR⟩;have HR0:Hid (S.r=0):=hr0;clear hE hR hr0;have hcap:=hr.2.2.1;have hlc:=hr.2.1;obtain ⟨LL,hLL⟩:∃LL,L.length=LL:=⟨_,rfl⟩;rw [hLL] at hlc ⊢;have HLL:Hid (L.length=LL):=hLL;unfold maxLen at hcap;have hq:(LL:Int)/256=(N:Int):=by omega
 have hS':=hS;unfold okS fitS ldB at hS';simp only [jO,jR] at hS'
 have HSB:Hid (((0<=S.h/\S.h<=32)/\(S.h=0↔S.r=0))/\((0<=S.b/\S.b<=1048576)/\(S.b=0↔S.r=0))/\(0<=S.l/\S.l<=S.b)/\(S.r=0\/2<=S.r/\S.r<=S.p-1)/\(S.s=0\/2<=S.s/\S.s<=S.p-1)/\(S.f=0\/2<=S.f/\S.f<=S.p-1)):=by
  show _/\_;refine ⟨by omega,by omega,by omega,by omega,by omega,by omega⟩
 obtain ⟨i0,hi0,hz0,hz1,hz2⟩:=info_parts info5;unfold spV at C ⊢;clear hS hil hr hS' hLL hp;go_enter func118,ntmps118
 go_wp2_with fail
 refine C.mono ?_;clear C;rintro e w1 ⟨rfl,hb⟩;have hrr:=(hb.block (w.heap.size+1) (by have:=HB.out.2.1;omega)).trans HB.out.2.2.1;have hs:=(hb.block (w.heap.size) (by have:=HB.out.2.1;omega)).trans HB.out.2.2.2;have s1:w1.cell? ⟨w.heap.size,1,none⟩=some (.int .i64 S.p):=by rw [cell_of_row w1 _ _ _ _ (0,0) hs];rfl
 rw [HL.out.2.2.2] at s1;have H1:Hid (Below w.heap.size w w1/\w1.heap[w.heap.size+1]?=some (.cells rp0C 95 (0,0))/\w1.heap[w.heap.size]?=some (.cells (spC S) 29 (0,0))):=⟨HB.out.1.trans (hb.mono HB.out.1.size),hrr,hs⟩;clear hb hrr hs HB;go_upto_region 8 with (at_make;refine wpList_make_full _ rfl _ _ 32 rfl w1.heap.size 5 i0 (.int .u8 0) 1 underlying32 hi0 hz0 hz1 .i64 .i64 _ _ N rfl rfl rfl rfl (by rw [hz2];omega) (by unfold maxLen;omega) (jB _) ?_;intro w2 hown2 hgrow2;have H2:Hid (Own w1.heap.size w2 (.slice (some ⟨w1.heap.size,0,none⟩) N N) (List.replicate N 0)/\Below w1.heap.size w1 w2):=⟨JJ hown2,(Below.refl w1.heap.size w1).grown hgrow2 (jB _) (by simp)⟩;clear hown2 hgrow2)
 have H3:Hid (WkS w ((w2.alloc (.cells (wcs a LL cap w1.heap.size N N q00 none 0 0 none 0 0 false) 188)).alloc (.cells #[.int .i64 0,.int .i64 0,.int .i64 0] 190)) w2.heap.size N (fun k=>k=w2.heap.size\/k=w1.heap.size) a cap L q00 (wk0 N) S/\At3 ((w2.alloc (.cells (wcs a LL cap w1.heap.size N N q00 none 0 0 none 0 0 false) 188)).alloc (.cells #[.int .i64 0,.int .i64 0,.int .i64 0] 190)) (w2.heap.size+1) s30):=by
  obtain ⟨b1,r1,s1⟩:=H1.out;obtain ⟨o2,b2⟩:=H2.out;have hlt1:=yR r1;have hw2:=b2.size
  have hia:∀k,obl a k->k<w.heap.size:=by
   rintro k ⟨x,rfl,rfl⟩;obtain ⟨b,off,e⟩:=HL.out.2.2.1.some' (by rw [HL.out.1];omega);cases e;exact block_lt_of_cell (HL.out.2.2.1.cells 0 (by rw [HL.out.1];omega))
  have hrow:=(HL.out.2.2.1.below b1).below b2;have st:=rw_start hrow HL.out.1 h4 o2 (fun k hk=>by have:=hia k hk;omega) hw2;rw [HLL.out] at st;have hbA:=(Below.refl w2.heap.size w2).alloc (jB _) (.cells (wcs a LL cap w1.heap.size N N q00 none 0 0 none 0 0 false) 188)
  have W1:WkS w (w2.alloc (.cells (wcs a LL cap w1.heap.size N N q00 none 0 0 none 0 0 false) 188)) w2.heap.size N (fun k=>k=w2.heap.size\/k=w1.heap.size) a cap L q00 (wk0 N) S:=
   {rw:=st,bel:=(b1.trans (b2.mono b1.size)).trans (hbA.mono (by omega)),s:=(hbA.block _ (by omega)).trans ((b2.block _ (by omega)).trans s1),r:=(hbA.block _ (by omega)).trans ((b2.block _ (by omega)).trans r1),lo:=fun k hk=>by rcases hk with rfl|rfl<;>omega,kl:=by simp [wk0],n0:=by omega,ilo:=hia}
  refine ⟨W1.below ((Below.refl _ _).alloc (jB _) _),?_⟩;have:=heap_alloc_new (w2.alloc (.cells (wcs a LL cap w1.heap.size N N q00 none 0 0 none 0 0 false) 188)) (.cells #[.int .i64 0,.int .i64 0,.int .i64 0] 190);rw [zE] at this;exact this
 obtain ⟨w3,hw3⟩:∃w3,((w2.alloc (.cells (wcs a LL cap w1.heap.size N N q00 none 0 0 none 0 0 false) 188)).alloc (.cells #[.int .i64 0,.int .i64 0,.int .i64 0] 190))=w3:=⟨_,rfl⟩;have hw3':=hw3;unfold wcs at hw3';simp only [q00] at hw3';simp at hw3';rw [hw3'];rw [hw3] at H3;obtain ⟨p,hpp⟩:∃p,w2.heap.size=p:=⟨_,rfl⟩;rw [hpp] at H3 ⊢;obtain ⟨gk0,hgk⟩:∃gk0,w1.heap.size=gk0:=⟨_,rfl⟩;rw [hgk] at H3 ⊢;have HPG:Hid (pgN L=N):=by show pgN L=N;unfold pgN;rw [HL.out.1];omega
 obtain ⟨A,hA⟩:∃A,wkA L S=A:=⟨_,rfl⟩;have HA:Hid (wkA L S=A):=hA;have hP1:¬(p+1=p\/p+1=gk0):=by have:=H2.out.2.size;omega
 have HP1:Hid (¬(p+1=p\/p+1=gk0)):=hP1;clear hw3 hw3' hpp hgk H1 H2 s1 hA hP1 hi0 hz0 hz1 hz2;obtain ⟨-,s2,s3,-,-,-,-⟩:=H3.out.1.at;obtain ⟨x0,x1,x2⟩:=H3.out.2.at;have t0:=H3.out.2.frz 0;have t1:=H3.out.2.frz 1;have t2:=H3.out.2.frz 2;go_upto_if 33 with fail
 go_cut [] (fun wx=>Hid (∃F,WkS w wx p N F a cap L q00 A.1 S/\At3 wx (p+1) A.2/\¬F (p+1)))
 case first=>
  have hr1:(S.r==0)=true:=by rw [HR0.out];rfl
  have hr2:(S.r !=0)=false:=by unfold bne;rw [hr1];rfl
  have HR:Hid (A=(wk0 N,s30)):=by show A=_;rw [<-HA.out];unfold wkA;rw [if_pos HR0.out,HPG.out]
  go_wp2_with fail
  go_meet
  case rel=>exact ⟨_,by rw [HR.out];exact H3.out.1,by rw [HR.out];exact H3.out.2,HP1.out⟩
 case rest=>
  clear s2 s3 x0 x1 x2 t0 t1 t2 H3 HP1;obtain ⟨F,hW,h3,-⟩:=hcut.out;obtain ⟨AW,ap,ab,al⟩:=A;obtain ⟨-,-,-,s4,s5,s6,s7⟩:=hW.at;obtain ⟨-,x1,x2⟩:=h3.at;simp only at x1 x2;obtain ⟨c16,z16⟩:=hW.rw.c16;have H3:Hid (WkS w wc p N F a cap L q00 AW S):=hW;obtain ⟨Bq,hBq⟩:∃Bq,(!(ab==S.b&&al==S.l))=Bq:=⟨_,rfl⟩;have HBq:Hid ((!(ab==S.b&&al==S.l))=Bq):=hBq;have HWB:Hid (wkB L S={AW with bad:=AW.bad||Bq}):=by show wkB L S=_;unfold wkB;rw [HA.out,<-hBq]
  clear hW h3 hcut hBq HA;simp only at c16;go_upto_region 10 with fail
  go_cut [52] (fun s52 wx=>s52=.bool Bq/\wx=wc)
  case first=>
   by_cases e1:ab=S.b
   ·by_cases e2:al=S.l
    ·have f1:(ab==S.b)=true:=by simpa using e1
     have f2:(al==S.l)=true:=by simpa using e2
     have f3:(ab !=S.b)=false:=by unfold bne;rw [f1];rfl
     have f4:(al !=S.l)=false:=by unfold bne;rw [f2];rfl
     have hB:Bq=false:=by rw [<-HBq.out,f1,f2];rfl
     clear e1 e2 f1 f2;go_wp2_with fail
     go_meet
     case rel=>exact ⟨by rw [hB],rfl⟩
    ·have f2:(al==S.l)=false:=by simpa using e2
     have f1:(ab==S.b)=true:=by simpa using e1
     have f3:(ab !=S.b)=false:=by unfold bne;rw [f1];rfl
     have f4:(al !=S.l)=true:=by unfold bne;rw [f2];rfl
     have hB:Bq=true:=by rw [<-HBq.out,f1,f2];rfl
     clear e1 e2 f1 f2;go_wp2_with fail
     go_meet
     case rel=>exact ⟨by rw [hB],rfl⟩
   ·have f1:(ab==S.b)=false:=by simpa using e1
    have f3:(ab !=S.b)=true:=by unfold bne;rw [f1];rfl
    have hB:Bq=true:=by rw [<-HBq.out,f1];rfl
    clear e1 f1;go_wp2_with fail
    go_meet
    case rel=>exact ⟨by rw [hB],rfl⟩
  case rest=>
   obtain ⟨rfl,rfl⟩:=hcut;obtain ⟨WB,hWB⟩:∃WB,wkB L S=WB:=⟨_,rfl⟩;rw [hWB] at HWB;have HWE:Hid (wkB L S=WB):=hWB;clear hWB;go_upto_if 52 with fail
   go_cut [] (fun wx=>Hid (WkS w wx p N F a cap L q00 WB S))
   case first=>
    cases Bq with
    |true=>
     go_wp2_with fail
     go_meet
     case rel=>
      show WkS _ _ _ _ _ _ _ _ _ _ _;rw [HWB.out,Bool.or_true];exact H3.out.step (H3.out.rw.setBad true) (Step.of (Ch.set H3.out.rw.fp _ _)) H3.out.kl
    |false=>
     go_wp2_with fail
     go_meet
     case rel=>
      show WkS _ _ _ _ _ _ _ _ _ _ _;rw [HWB.out,Bool.or_false];exact H3.out
   case rest=>
    clear s4 s5 s6 s7 x1 x2 c16 z16 H3 HWB HBq;have hW:=hcut.out;obtain ⟨-,-,-,-,-,s6,s7⟩:=hW.at;have H3:Hid (WkS w wc p N F a cap L q00 WB S):=hW;obtain ⟨C1,hC1⟩:∃C1,wkC L S=C1:=⟨_,rfl⟩;have hc1:chGo L 115 (N+1) S.s WB []=C1:=by rw [<-hC1];unfold wkC;rw [HPG.out,HWE.out]
    have hsb: -9223372036854775808<=S.s/\S.s<=9223372036854775807:=by have:=HSB.out.2.2.2.2.1;have:=HL.out.2.2.2;omega
    have hfb: -9223372036854775808<=S.f/\S.f<=9223372036854775807:=by have:=HSB.out.2.2.2.2.2;have:=HL.out.2.2.2;omega
    have hch:=FK hW.rw (by rw [hW.kl];omega) 115 (by omega) (by decide) (by decide) S.s hsb (N+1) (by rw [hW.kl];omega) C1 hc1;have HC1:Hid (wkC L S=C1/\C1.1.kd.length=N):=⟨hC1,by rw [<-hc1,chGo_len];exact hW.kl⟩;have HFB:Hid (-9223372036854775808<=S.f/\S.f<=9223372036854775807):=hfb;have lps:w.heap.size<wc.heap.size:=by have:=hW.lt;omega
    clear hW hcut hC1 hc1 hsb hfb HWE;obtain ⟨CW,st⟩:=C1;simp only at hch HC1;obtain ⟨sl,hsl⟩:∃sl,st.length=sl:=⟨_,rfl⟩;rw [hsl] at hch;have HSL:Hid (st.length=sl):=hsl;clear hsl;go_wp2_with fail
    refine hch.mono ?_;clear hch;rintro e w5 ⟨gs,cs,rfl,hos,hbs,h5,hc5⟩;have W5:WkS w w5 p N F a cap L q00 CW S:=H3.out.step h5 (Step.of hc5) HC1.out.2;have c13:=h5.c13.1;have z13:=h5.frz 13;simp only [q00] at c13;simp at c13;have hgs:∀k,obl gs k->wc.heap.size<=k/\k<w5.heap.size:=fun k hk=>World.ownsRow.lt hos k (zI hk)
    have hrs:Row w5 gs cs st:=(hos.row' hbs).2;have W6:WkS w (w5.setCell ⟨p,13,none⟩ (.slice gs sl cs)) p N F a cap L (fun k=>if k=9 then .slice gs sl cs else q00 k) CW S:=W5.step (h5.setQ 13 9 (.inl ⟨rfl,rfl⟩) _) (Step.of (Ch.set h5.fp _ _)) HC1.out.2;have hrs6:Row (w5.setCell ⟨p,13,none⟩ (.slice gs sl cs)) gs cs st:=hrs.keepO (fun g hg=>Below.heap_setCell w5 ⟨p,13,none⟩ _ g (fun e=>by have:=hgs g hg;have:=H3.out.rw.lt p H3.out.rw.fp;have e':g=p:=e;omega));have s7':=W6.at.2.2.2.2.2.2;obtain ⟨C2,hC2⟩:∃C2,wkD L S=C2:=⟨_,rfl⟩;have hc2:chGo L 102 (N+1) S.f CW []=C2:=by rw [<-hC2];unfold wkD;rw [HPG.out,HC1.out.1]
    have hch:=FK W6.rw (by rw [W6.kl];omega) 102 (by omega) (by decide) (by decide) S.f HFB.out (N+1) (by rw [W6.kl];omega) C2 hc2;have HC2:Hid (wkD L S=C2/\C2.1.kd.length=N):=⟨hC2,by rw [<-hc2,chGo_len];exact W6.kl⟩;have H6:Hid (WkS w (w5.setCell ⟨p,13,none⟩ (.slice gs sl cs)) p N F a cap L (fun k=>if k=9 then .slice gs sl cs else q00 k) CW S/\Row (w5.setCell ⟨p,13,none⟩ (.slice gs sl cs)) gs cs st/\(∀k,obl gs k->¬F k/\k<w5.heap.size/\w.heap.size+2<=k)):=⟨W6,hrs6,fun k hk=>⟨fun e=>by have:=hgs k hk;have:=H3.out.rw.lt k e;omega,(hgs k hk).2,by have:=(hgs k hk).1;have:=H3.out.lt;omega⟩⟩;clear hos hbs h5 hc5 W5 hgs hrs W6 hrs6 hC2 hc2 s6 s7 lps;obtain ⟨DW,fr⟩:=C2;simp only at hch HC2;obtain ⟨fl,hfl⟩:∃fl,fr.length=fl:=⟨_,rfl⟩;rw [hfl] at hch;have HFL:Hid (fr.length=fl):=hfl;clear hfl;obtain ⟨w6,hw6⟩:∃w6,w5.setCell ⟨p,13,none⟩ (.slice gs sl cs)=w6:=⟨_,rfl⟩;rw [hw6] at hch H6 s7';clear H3 HFB;go_wp2_with fail
    refine hch.mono ?_;clear hch;rintro e w7 ⟨gf,cf,rfl,hof,hbf,h7,hc7⟩
    have W7:WkS w w7 p N F a cap L (qk gs sl cs (.slice none 0 0)) DW S:=by
     have:=H6.out.1.step h7 (Step.of hc7) HC2.out.2;rw [qk0] at this;exact this
    have hw65:w6.heap.size=w5.heap.size:=by rw [<-hw6,yP]
    have hrs7:Row w7 gs cs st:=H6.out.2.1.keepO (fun g hg=>hc7.block g (by rw [hw65];exact (H6.out.2.2 g hg).2.1) (H6.out.2.2 g hg).1);have H7:Hid (WkS w w7 p N F a cap L (qk gs sl cs (.slice none 0 0)) DW S/\Row w7 gs cs st/\Row w7 gf cf fr/\(∀k,obl gs k->¬F k/\k<w7.heap.size/\w.heap.size+2<=k)):=⟨W7,hrs7,(hof.row' hbf).2,fun k hk=>⟨(H6.out.2.2 k hk).1,by have:=(H6.out.2.2 k hk).2.1;have:=hc7.size;omega,(H6.out.2.2 k hk).2.2⟩⟩;obtain ⟨n1,n2,n3⟩:=YI (cs:=rp0C) W7.bel W7.r;have HNE:Hid ((w7.setRow (w.heap.size+1) rp0C).heap[w.heap.size+1]?=some (.cells rp0C 95 (0,0))/\Below w.heap.size w (w7.setRow (w.heap.size+1) rp0C)):=⟨n2,n3⟩;have c16:=h7.c16.1
    have HNO:Hid (waB L S=false->E=8/\R=rp0):=fun hf=>by
     obtain ⟨hE,hR⟩:=wa_no HL.out.2.1 (by rw [HPG.out];exact HL.out.2.2.2) hf;exact ⟨HER.out.1.symm.trans hE,HER.out.2.symm.trans hR⟩
    have HWA:Hid (waB L S=(!DW.bad&&(decide (fr.length=(N+7)/8)&&(List.range (fr.length*8)).all (frB fr DW.kd N)))):=waB_is HC2.out.1 HPG.out;have hcf:=(hof.row' hbf).2.2.1;have hcf2:=(hof.row' hbf).2.2.2.1;rw [HFL.out] at hcf;unfold maxLen at hcf2;obtain ⟨M,hM⟩:∃M,(N+7)/8=M:=⟨_,rfl⟩;have hM1:((N:Int)+7)/8=(M:Int):=by omega
    have hM5:M<=513:=by omega
    rw [hM] at HWA;clear hof hbf h7 hc7 W7 hrs7 n2 n3 hw6 H6 s7' c13 z13 hw65 hM;cases hbad:DW.bad with
    |true=>
     rw [hbad] at c16 HWA;have HX:Hid (E=8/\R=rp0):=HNO.out (by rw [HWA.out];rfl);clear hbad;go_wp2;refine bodyPost_ret (yU rfl _ _ (w.heap.size+1) _ rp0C (0,0) _ rfl HNE.out.1 underlying95 rfl (by kernel_rfl)) rfl ?_;rw [HX.out.1,HX.out.2];exact ⟨⟨_,rfl,rep0 _ _⟩,HNE.out.2⟩
    |false=>
     rw [hbad] at c16 HWA;clear hbad;by_cases hln:fl=M
     ·subst hln;have HWL:Hid (waB L S=(List.range (fr.length*8)).all (frB fr DW.kd N)):=by show _=_;rw [HWA.out,HFL.out];simp
      clear HWA;have HWA:Hid (waB L S=(List.range (fr.length*8)).all (frB fr DW.kd N)):=HWL.out;obtain ⟨kb0,ck,aP,aT,cP,cT,hR⟩:=H7.out.1.rw;have k1:=hR.at.2.1;rw [HC2.out.2] at k1;have hck1:=hR.kd.cur;obtain ⟨-,-,hck1,hck2,-⟩:=hck1;rw [HC2.out.2] at hck1;unfold maxLen at hck2;have HRR:Hid (RW w7 p F a cap L kb0 ck aP aT cP cT (qk gs sl cs (.slice none 0 0)) DW):=hR;clear HWL;go_wp2_with fail
      go_loopg [10] (fl*8) (fun g i wr=>∃k:Nat,k<=fl*8/\g=fl*8-k/\i=.int .i64 k/\w7=wr/\Hid (∀j,j<k->frB fr DW.kd N j=true))
      case atStart=>exact ⟨0,jT _,rfl,rfl,rfl,fun j hj=>by omega⟩
      case round=>
       obtain ⟨k,hk,hgk,rfl,rfl,HI⟩:=hrel;have HGK:Hid (gk=fl*8-k):=hgk;clear hgk hM1;by_cases hlt:k<fl*8
       ·obtain ⟨b,off,rfl⟩:=H7.out.2.2.1.some' (by rw [HFL.out];omega);have hrow:=H7.out.2.2.1.cells (k/8) (by rw [HFL.out];omega);have hbz:=H7.out.2.2.1.1.at (k/8);have hand:=bit_and hbz.1 hbz.2 (k%8);have hkj:((k:Int)/8)=((k/8:Nat):Int):=by omega
        have hkr:((k:Int)%8)=((k%8:Nat):Int):=by omega
        have hr8:k%8<8:=by omega
        have hj:k/8<fl:=by omega
        have hbit:bitR fr k=(fr.getD (k/8) 0/2^(k%8)%2==1):=rfl;obtain ⟨z,hz'⟩:∃z,fr.getD (k/8) 0=z:=⟨_,rfl⟩;rw [hz'] at hrow hbz hand hbit;obtain ⟨j,hj'⟩:∃j,k/8=j:=⟨_,rfl⟩;obtain ⟨r,hr'⟩:∃r,k%8=r:=⟨_,rfl⟩;rw [hj'] at hrow hkj hj;rw [hr'] at hand hkr hr8 hbit;clear hz' hj' hr';have hk4:k<4200:=by omega
        have hm01:z/2^r%2=0\/z/2^r%2=1:=by omega
        rcases hm01 with hm|hm
        ·rw [hm] at hand hbit;have hbR:bitR fr k=false:=hbit;clear hm hbit hbz;by_cases h2:k<2
         ·have HX:Hid (E=8/\R=rp0):=HNO.out (HWA.out.trans (GV (f:=frB fr DW.kd N) (n:=fr.length*8) (k:=k) (by rw [HFL.out];exact hlt) (by unfold frB;rw [hbR];rw [jE h2];rfl)));clear HI;go_wp2;refine bodyPost_ret (yU rfl _ _ (w.heap.size+1) _ rp0C (0,0) _ rfl HNE.out.1 underlying95 rfl (by kernel_rfl)) rfl ?_;rw [HX.out.1,HX.out.2];exact ⟨⟨_,rfl,rep0 _ _⟩,HNE.out.2⟩
         ·have h2i:decide ((k:Int)<2)=false:=by rw [decide_eq_false_iff_not];omega
          by_cases hN:k<N
          ·obtain ⟨-,b1,-,-⟩:=JL hR.kd k (by rw [HC2.out.2];exact hN);have hyb:=hR.kb.at k;obtain ⟨y,hy⟩:∃y,DW.kd.getD k 0=y:=⟨_,rfl⟩;rw [hy] at b1 hyb;by_cases y0:y=0
           ·subst y0;have hfr:frB fr DW.kd N k=true:=by unfold frB;rw [hbR];rw [jH h2,hy];simp
            have HI2:Hid (∀j,j<k+1->frB fr DW.kd N j=true):=fun j hj=>by rcases Nat.lt_succ_iff_lt_or_eq.1 hj with e|rfl;exact HI.out j e;exact hfr
            clear HI hfr hbR;go_wp2;go_roundg (fl*8-(k+1))
            case rel=>exact ⟨k+1,by omega,rfl,by go_num,rfl,HI2⟩
            case measure=>have:=HGK.out;omega
           ·have y1:(y==0)=false:=by simpa using y0
            have y2:(y !=0)=true:=by unfold bne;rw [y1];rfl
            have HX:Hid (E=8/\R=rp0):=HNO.out (HWA.out.trans (GV (f:=frB fr DW.kd N) (n:=fr.length*8) (k:=k) (by rw [HFL.out];exact hlt) (by unfold frB;rw [hbR];rw [jH h2,jE hN,hy,y1];rfl)));clear HI;go_wp2;refine bodyPost_ret (yU rfl _ _ (w.heap.size+1) _ rp0C (0,0) _ rfl HNE.out.1 underlying95 rfl (by kernel_rfl)) rfl ?_;rw [HX.out.1,HX.out.2];exact ⟨⟨_,rfl,rep0 _ _⟩,HNE.out.2⟩
          ·have hfr:frB fr DW.kd N k=true:=by unfold frB;rw [hbR];rw [jH h2,jH hN];rfl
           have HI2:Hid (∀j,j<k+1->frB fr DW.kd N j=true):=fun j hj=>by rcases Nat.lt_succ_iff_lt_or_eq.1 hj with e|rfl;exact HI.out j e;exact hfr
           clear HI hfr hbR;go_wp2;go_roundg (fl*8-(k+1))
           case rel=>exact ⟨k+1,by omega,rfl,by go_num,rfl,HI2⟩
           case measure=>have:=HGK.out;omega
        ·rw [hm] at hand hbit;have hbR:bitR fr k=true:=hbit;clear hm hbit hbz;by_cases h2:k<2
         ·have hfr:frB fr DW.kd N k=true:=by unfold frB;rw [hbR];rw [jE h2];rfl
          have HI2:Hid (∀j,j<k+1->frB fr DW.kd N j=true):=fun j hj=>by rcases Nat.lt_succ_iff_lt_or_eq.1 hj with e|rfl;exact HI.out j e;exact hfr
          clear HI hfr hbR;go_wp2;go_roundg (fl*8-(k+1))
          case rel=>exact ⟨k+1,by omega,rfl,by go_num,rfl,HI2⟩
          case measure=>have:=HGK.out;omega
         ·have h2i:decide ((k:Int)<2)=false:=by rw [decide_eq_false_iff_not];omega
          by_cases hN:k<N
          ·obtain ⟨-,b1,-,-⟩:=JL hR.kd k (by rw [HC2.out.2];exact hN);have hyb:=hR.kb.at k;obtain ⟨y,hy⟩:∃y,DW.kd.getD k 0=y:=⟨_,rfl⟩;rw [hy] at b1 hyb;by_cases y0:y=0
           ·subst y0;have HX:Hid (E=8/\R=rp0):=HNO.out (HWA.out.trans (GV (f:=frB fr DW.kd N) (n:=fr.length*8) (k:=k) (by rw [HFL.out];exact hlt) (by unfold frB;rw [hbR];rw [jH h2,hy];simp)));clear HI;go_wp2;refine bodyPost_ret (yU rfl _ _ (w.heap.size+1) _ rp0C (0,0) _ rfl HNE.out.1 underlying95 rfl (by kernel_rfl)) rfl ?_;rw [HX.out.1,HX.out.2];exact ⟨⟨_,rfl,rep0 _ _⟩,HNE.out.2⟩
           ·have y1:(y==0)=false:=by simpa using y0
            have y2:(y !=0)=true:=by unfold bne;rw [y1];rfl
            have hfr:frB fr DW.kd N k=true:=by unfold frB;rw [hbR];rw [jH h2,jE hN,hy,y1];rfl
            have HI2:Hid (∀j,j<k+1->frB fr DW.kd N j=true):=fun j hj=>by rcases Nat.lt_succ_iff_lt_or_eq.1 hj with e|rfl;exact HI.out j e;exact hfr
            clear HI hfr hbR;go_wp2;go_roundg (fl*8-(k+1))
            case rel=>exact ⟨k+1,by omega,rfl,by go_num,rfl,HI2⟩
            case measure=>have:=HGK.out;omega
          ·have HX:Hid (E=8/\R=rp0):=HNO.out (HWA.out.trans (GV (f:=frB fr DW.kd N) (n:=fr.length*8) (k:=k) (by rw [HFL.out];exact hlt) (by unfold frB;rw [hbR];rw [jH h2,jH hN];rfl)));clear HI;go_wp2;refine bodyPost_ret (yU rfl _ _ (w.heap.size+1) _ rp0C (0,0) _ rfl HNE.out.1 underlying95 rfl (by kernel_rfl)) rfl ?_;rw [HX.out.1,HX.out.2];exact ⟨⟨_,rfl,rep0 _ _⟩,HNE.out.2⟩
       ·have HX:Hid (waB L S=true):=HWA.out.trans (all_yes (f:=frB fr DW.kd N) (n:=fr.length*8) (fun j hj=>HI.out j (by rw [HFL.out] at hj;omega)))
        have HWE:Hid (E=0/\R=⟨S,-1,DW.pc,DW.tx,st,rsg DW.kd N,S.h⟩/\∀x∈DW.pc,wfC x):=by
         obtain ⟨hE,hR2⟩:=wa_yes HL.out.2.1 (by rw [HPG.out];exact HL.out.2.2.2) HX.out;have hpc:=wk_pcs HL.out.2.2.1.1 (by rw [HPG.out];exact h4) HL.out.2.1 hE;rw [hR2,HC2.out.1] at hpc;rw [HC2.out.1,HC1.out.1,HPG.out] at hR2;exact ⟨HER.out.1.symm.trans hE,HER.out.2.symm.trans hR2,hpc⟩
        have HFW:Hid (∀k,F k->k<w7.heap.size):=hR.lt;have H72:Hid (w.heap.size+2<=w7.heap.size):=by show _<=_;have:=H7.out.1.lt;omega
        clear HI HX hR k1 hck1 hck2 HRR HNO HWA HNE n1 c16 HGK;go_wp2_with fail
        go_loopg [12] N (fun g i wr=>∃(k:Nat) (ag:Option Addr) (cg:Nat),k<=N/\g=N-k/\i=.int .i64 k/\Hid (PgI w w7 wr p N F a cap L gs sl cs DW S k (.slice ag (rsg DW.kd k).length cg)))
        case atStart=>exact ⟨0,none,0,jT _,rfl,rfl,⟨H7.out.1,⟨rfl,.inl ⟨rfl,rfl⟩⟩,Ch.refl _ _ _⟩⟩
        case round=>
         obtain ⟨m,ag,cg,hm,hgk,rfl,HI⟩:=hrel;have HGK:Hid (gk=N-m):=hgk;clear hgk;obtain ⟨kb,ck,aP,aT,cP,cT,hR⟩:=HI.out.wk.rw;have k1:=hR.at.2.1;rw [HC2.out.2] at k1;have hck:=hR.kd.cur;obtain ⟨-,-,hck1,hck2,-⟩:=hck;rw [HC2.out.2] at hck1;unfold maxLen at hck2;have c14:=HI.out.wk.rw.c13.2.1;have z14:=HI.out.wk.rw.frz 14;rw [show qk gs sl cs (.slice ag (rsg DW.kd m).length cg) 10=.slice ag (rsg DW.kd m).length cg from rfl] at c14;obtain ⟨rl,hrl⟩:∃rl,(rsg DW.kd m).length=rl:=⟨_,rfl⟩;have hrm:rl<=m:=by rw [<-hrl];exact rsg_len _ _
         have HRL:Hid ((rsg DW.kd m).length=rl):=hrl;rw [hrl] at c14 HI;clear hrl;by_cases hlm:m<N
         ·obtain ⟨-,b1,-,-⟩:=JL hR.kd m (by rw [HC2.out.2];exact hlm);have hyb:=hR.kb.at m;obtain ⟨y,hy⟩:∃y,DW.kd.getD m 0=y:=⟨_,rfl⟩;rw [hy] at b1 hyb;have HY:Hid (DW.kd.getD m 0=y):=hy;have lpr:p<wr.heap.size:=hR.lt p hR.fp;clear hy hR;by_cases y0:y=0
          ·subst y0
           have HI2:Hid (PgI w w7 wr p N F a cap L gs sl cs DW S (m+1) (.slice ag (rsg DW.kd (m+1)).length cg)):=by
            show PgI _ _ _ _ _ _ _ _ _ _ _ _ _ _ _ _;rw [rsg_no HY.out,HRL.out];exact {HI.out with own:=by rw [rsg_no HY.out];exact HI.out.own}
           clear HI;go_wp2;go_roundg (N-(m+1))
           case rel=>exact ⟨m+1,ag,cg,by omega,rfl,by go_num,HI2⟩
           case measure=>have:=HGK.out;omega
          ·have y1:(y==0)=false:=by simpa using y0
           have y2:(y !=0)=true:=by unfold bne;rw [y1];rfl
           have HYN:Hid (¬DW.kd.getD m 0=0):=by show ¬_;rw [HY.out];exact y0
           have hsz:=HI.out.ch.size;clear y0 y1;go_wp2_with (at_builtin;refine appI wr rfl _ _ rfl w7.heap.size (.slice ag rl cg) (rsg DW.kd m) (m:Int) rfl HI.out.own rfl (by rw [HRL.out];omega) hsz ?_;intro v4 w4 ho4 hb4;obtain ⟨ga,ca,hv4,-⟩:=ho4.row2;rw [jN,HRL.out] at hv4;subst hv4;have c14':=(hb4.cell (p:=⟨p,14,none⟩) (HFW.out p HI.out.wk.rw.fp)).trans c14;have z14':=(hb4.frozen (p:=⟨p,14,none⟩) (HFW.out p HI.out.wk.rw.fp)).trans z14;have H4:Hid (PgI w w7 (w4.setCell ⟨p,14,none⟩ (.slice ga (rl+[(m:Int)].length) ca)) p N F a cap L gs sl cs DW S (m+1) (.slice ga (rl+[(m:Int)].length) ca)):=HI.out.next HFW.out H72.out (fun k hk=>by have:=HI.out.wk.ilo k hk;have:=H72.out;omega) HYN.out ho4 hb4;clear ho4 hb4)
           go_roundg (N-(m+1))
           case rel=>exact ⟨m+1,ga,ca,by omega,rfl,by go_num,by show PgI _ _ _ _ _ _ _ _ _ _ _ _ _ _ _ _;rw [gF HYN.out,jN,HRL.out];exact H4.out⟩
           case measure=>have:=HGK.out;omega
         ·have hmN:m=N:=by omega
          subst hmN;obtain ⟨w9,aP',cP',aT',cT',f1,⟨f2,f3⟩,f4,f5,f6,f7⟩:=walk_end HI.out H7.out.2.1 H7.out.2.2.2 HSL.out HWE.out.2.2 H72.out HRL.out HFW.out;obtain ⟨g1,g2,g3,g4,g5⟩:=f7 _ rfl;have HG:Hid _:=And.intro g3 (And.intro g4 g5);obtain ⟨s1,s2,s3,s4,s5,s6,s7⟩:=HI.out.wk.at;have s0:wr.cell? ⟨w.heap.size,0,none⟩=some (.int .i64 S.g):=by rw [cell_of_row wr _ _ _ _ (0,0) HI.out.wk.s];rfl
          have f4a:=f4 10;have f4b:=f4 15;unfold spC at f1;unfold rpC at g1 g2;clear f4 f7 g3 g4 g5 hR k1 hck1 hck2 c14 z14 HI;go_wp2;refine bodyPost_ret (yU rfl _ _ (w.heap.size+1) _ _ (0,0) _ rfl HG.out.1 underlying95 rfl (by kernel_rfl)) rfl ?_;rw [HWE.out.1,HWE.out.2.1];exact ⟨⟨_,rfl,HG.out.2.2⟩,HG.out.2.1⟩
     ·have hl1:((fl:Int)==(M:Int))=false:=by rw [xG];omega
      have hl2:((fl:Int) !=(M:Int))=true:=by unfold bne;rw [hl1];rfl
      have HX:Hid (E=8/\R=rp0):=HNO.out (by rw [HWA.out,HFL.out,jH hln];rfl);clear hln hl1;go_wp2;refine bodyPost_ret (yU rfl _ _ (w.heap.size+1) _ rp0C (0,0) _ rfl HNE.out.1 underlying95 rfl (by kernel_rfl)) rfl ?_;rw [HX.out.1,HX.out.2];exact ⟨⟨_,rfl,rep0 _ _⟩,HNE.out.2⟩
end Go.Proofs.YtaijfhadecennaaGreat.Oct
namespace Go.Proofs.YtaijfhadecennaaGreat.Oct
open Go.RowKit
theorem uF (a a':Option Addr) (cap cap' n n':Nat) (w:World) (T U:Sp) (e f:Int)
  (C1:∀w1,Below w.heap.size w w1->Calls prog 164 #[.slice a n cap] w1 fun r w'=>r=.returned (.tuple #[spV T,.int .i64 e])/\Below w1.heap.size w1 w')
  (C2:∀w1,Below w.heap.size w w1->Calls prog 164 #[.slice a' n' cap'] w1 fun r w'=>r=.returned (.tuple #[spV U,.int .i64 f])/\Below w1.heap.size w1 w') (V:Sp) (P E:Int)
  (hz:(e=0/\(f !=0)=true/\V=T/\P=0/\E=0)\/(e=0/\f=0/\U.g<=T.g/\V=T/\P=0/\E=0)\/(e=0/\f=0/\¬U.g<=T.g/\V=U/\P=1/\E=0)\/((e !=0)=true/\(e==0)=false/\f=0/\V=U/\P=1/\E=0)\/(e !=0)=true/\(f !=0)=true/\V=sp0/\P= -1/\E=8):
  Calls prog 117 #[.slice a n cap,.slice a' n' cap'] w fun r w'=>r=.returned (.tuple #[spV V,.int .i64 P,.int .i64 E])/\Below w.heap.size w w':=by
 have H1:Hid _:=C1;have H2:Hid _:=C2;clear C1 C2;dsimp only [spV] at H1 H2 ⊢;go_enter func117,ntmps117
 go_wp2_with fail
 refine (H1.out _ ((Below.refl _ w).alloc (jB _) _)).mono ?_;clear H1;rintro r w1 ⟨rfl,hb⟩;have R1:Hid (Sw8 w1 w.heap.size sp0):=(JG w sp0 29).same (hb.block _ (by simp));have HB1:Hid (Below w.heap.size w w1):=((Below.refl _ w).alloc (jB _) _).trans (hb.mono (by simp));clear hb;go_wp2_with fail
 refine (H2.out _ (HB1.out.alloc HB1.out.size _)).mono ?_;clear H2;rintro r w2 ⟨rfl,hb⟩;have R2:Hid (Sw8 (w2.alloc (.cells #[.int .i64 U.g,.int .i64 U.p,.int .i64 U.r,.int .i64 U.h,.int .i64 U.b,.int .i64 U.l,.int .i64 U.s,.int .i64 U.f] 29)) w.heap.size sp0):=((R1.out.alloc _).below hb).alloc _;have X2:Hid (Sl8 (w2.alloc (.cells #[.int .i64 U.g,.int .i64 U.p,.int .i64 U.r,.int .i64 U.h,.int .i64 U.b,.int .i64 U.l,.int .i64 U.s,.int .i64 U.f] 29)) w1.heap.size T):=((JG w1 T 29).below hb).alloc _ |>.1
 have HB2:Hid (Below w.heap.size w (w2.alloc (.cells #[.int .i64 U.g,.int .i64 U.p,.int .i64 U.r,.int .i64 U.h,.int .i64 U.b,.int .i64 U.l,.int .i64 U.s,.int .i64 U.f] 29))):=by
  have h1:Below w.heap.size w w2:=(HB1.out.alloc HB1.out.size _).trans (hb.mono (jP HB1.out.size (by simp)));exact h1.alloc h1.size _
 clear hb;have q':=R2.out;obtain ⟨k0,k1,k2,k3,k4,k5,k6,k7⟩:=X2.out;obtain ⟨⟨q0,q1,q2,q3,q4,q5,q6,q7⟩,qf⟩:=q';have f0:=qf 0 (by omega);have f1:=qf 1 (by omega);have f2:=qf 2 (by omega);have f3:=qf 3 (by omega);have f4:=qf 4 (by omega);have f5:=qf 5 (by omega);have f6:=qf 6 (by omega);have f7:=qf 7 (by omega);clear qf;dsimp only [sp0] at q0 q1 q2 q3 q4 q5 q6 q7;rcases hz with ⟨rfl,hf,rfl,rfl,rfl⟩|⟨rfl,rfl,hg,rfl,rfl,rfl⟩|⟨rfl,rfl,hg,rfl,rfl,rfl⟩|⟨he,he2,rfl,rfl,rfl,rfl⟩|⟨he,hf,rfl,rfl,rfl⟩;rotate_left 4
 ·go_wp2;clear k0 k1 k2 k3 k4 k5 k6 k7;clear q0 q1 q2 q3 q4 q5 q6 q7 f0 f1 f2 f3 f4 f5 f6 f7;obtain ⟨q0,q1,q2,q3,q4,q5,q6,q7⟩:=JN R2.out.1 sp0;unfold wr8 at q0 q1 q2 q3 q4 q5 q6 q7;dsimp only [sp0] at q0 q1 q2 q3 q4 q5 q6 q7;refine bodyPost_ret (v:=.tuple #[spV sp0,.int .i64 (-1),.int .i64 8]) ?_ rfl ⟨rfl,zF HB2.out (jB _) sp0⟩;simp [results,Tryz.results117,go_sem,spV,sp0,q0,q1,q2,q3,q4,q5,q6,q7]
 all_goals (
  go_wp2;clear k0 k1 k2 k3 k4 k5 k6 k7;clear q0 q1 q2 q3 q4 q5 q6 q7 f0 f1 f2 f3 f4 f5 f6 f7;obtain ⟨q0,q1,q2,q3,q4,q5,q6,q7⟩:=JN R2.out.1 V;unfold wr8 at q0 q1 q2 q3 q4 q5 q6 q7;refine bodyPost_ret (v:=.tuple #[spV V,.int .i64 _,.int .i64 0]) ?_ rfl ⟨rfl,zF HB2.out (jB _) V⟩;simp [results,Tryz.results117,go_sem,spV,q0,q1,q2,q3,q4,q5,q6,q7])
theorem rchoose_v (a a':Option Addr) (cap cap' n n':Nat) (x y:List Int) (w:World) (hx:Row w a cap x) (hnx:x.length=n) (hy:Row w a' cap' y) (hny:y.length=n')
  (S:Sp) (hS:chS x y=S) (P:Int) (hP:chP x y=P) (E:Int) (hE:chE x y=E):
  Calls prog 117 #[.slice a n cap,.slice a' n' cap'] w fun e w'=>e=.returned (.tuple #[spV S,.int .i64 P,.int .i64 E])/\Below w.heap.size w w':=by
 subst hS hP hE;have C1:∀w1,Below w.heap.size w w1->Calls prog 164 #[.slice a n cap] w1 fun r w'=>r=.returned (.tuple #[spV (deS x),.int .i64 (deE x)])/\Below w1.heap.size w1 w':=fun w1 hb=>fL a cap n x w1 (hx.below hb) hnx _ rfl _ rfl
 have C2:∀w1,Below w.heap.size w w1->Calls prog 164 #[.slice a' n' cap'] w1 fun r w'=>r=.returned (.tuple #[spV (deS y),.int .i64 (deE y)])/\Below w1.heap.size w1 w':=fun w1 hb=>fL a' cap' n' y w1 (hy.below hb) hny _ rfl _ rfl
 by_cases h1:deE x=0
 ·by_cases h2:deE y=0
  ·by_cases hg:(deS y).g<=(deS x).g
   ·have e1:chS x y=deS x:=by unfold chS;rw [if_pos ⟨h1,.inr hg⟩]
    have e2:chP x y=0:=by unfold chP;rw [if_pos ⟨h1,.inr hg⟩]
    have e3:chE x y=0:=by unfold chE;rw [if_neg (fun hh=>hh.1 h1)]
    rw [e1,e2,e3];exact uF a a' cap cap' n n' w _ _ _ _ C1 C2 _ _ _ (.inr (.inl ⟨h1,h2,hg,rfl,rfl,rfl⟩))
   ·have hn:¬(deE x=0/\(deE y≠0\/(deS y).g<=(deS x).g)):=fun hh=>hh.2.elim (fun h=>h h2) hg
    have e1:chS x y=deS y:=by unfold chS;rw [if_neg hn]
    have e2:chP x y=1:=by unfold chP;rw [if_neg hn,if_pos h2]
    have e3:chE x y=0:=by unfold chE;rw [if_neg (fun hh=>hh.1 h1)]
    rw [e1,e2,e3];exact uF a a' cap cap' n n' w _ _ _ _ C1 C2 _ _ _ (.inr (.inr (.inl ⟨h1,h2,hg,rfl,rfl,rfl⟩)))
  ·have e1:chS x y=deS x:=by unfold chS;rw [if_pos ⟨h1,.inl h2⟩]
   have e2:chP x y=0:=by unfold chP;rw [if_pos ⟨h1,.inl h2⟩]
   have e3:chE x y=0:=by unfold chE;rw [if_neg (fun hh=>hh.1 h1)]
   rw [e1,e2,e3];exact uF a a' cap cap' n n' w _ _ _ _ C1 C2 _ _ _ (.inl ⟨h1,by simpa using h2,rfl,rfl,rfl⟩)
 ·have hn:¬(deE x=0/\(deE y≠0\/(deS y).g<=(deS x).g)):=fun hh=>h1 hh.1
  have e1:chS x y=deS y:=by unfold chS;rw [if_neg hn]
  by_cases h2:deE y=0
  ·have e2:chP x y=1:=by unfold chP;rw [if_neg hn,if_pos h2]
   have e3:chE x y=0:=by unfold chE;rw [if_neg (fun hh=>hh.2 h2)]
   rw [e1,e2,e3];exact uF a a' cap cap' n n' w _ _ _ _ C1 C2 _ _ _ (.inr (.inr (.inr (.inl ⟨by simpa using h1,by simpa using h1,h2,rfl,rfl,rfl⟩))))
  ·have e2:chP x y= -1:=by unfold chP;rw [if_neg hn,if_neg h2]
   have e3:chE x y=8:=by unfold chE;rw [if_pos ⟨h1,h2⟩]
   rw [e1,e2,e3,de_0 h2];exact uF a a' cap cap' n n' w _ _ _ _ C1 C2 _ _ _ (.inr (.inr (.inr (.inr ⟨by simpa using h1,by simpa using h2,rfl,rfl,rfl⟩))))
end Go.Proofs.YtaijfhadecennaaGreat.Oct
namespace Go.Proofs.YtaijfhadecennaaGreat.Oct
open Go.RowKit
theorem rwalk_any (a:Option Addr) (cap N:Nat) (L:List Int) (w:World) (hr:Row w a cap L) (hil:L.length=256*N) (hN8:8<=N) (h4:N<=4096) (S:Sp) (hr0:S.r=0):
  Calls prog 118 #[.slice a L.length cap,spV S] w fun e w'=>(∃v,e=.returned (.tuple #[v,.int .i64 (waE L S)])/\RepIs w.heap.size w' v (waR L S))/\Below w.heap.size w w':=by
 have hpg:pgN L=N:=by unfold pgN;rw [hil];omega
 cases hS:okS S with
 |false=>
  have e:waE L S=1:=by unfold waE;rw [hS];rfl
  have e2:waR L S=rp0:=by unfold waR;rw [if_neg (by rw [e];decide)]
  rw [e,e2];refine (rwalk_arg a L.length cap w S hS).mono ?_;rintro e w' ⟨rfl,hb⟩;exact ⟨⟨_,rfl,rep0 _ _⟩,hb⟩
 |true=>
  by_cases hp:S.p=(N:Int)
  ·exact rwalk_go a cap N L w hr hil hN8 h4 S hS hp _ rfl _ rfl hr0
  ·have e:waE L S=8:=by unfold waE;rw [if_pos hS,hpg,if_neg hp]
   have e2:waR L S=rp0:=by unfold waR;rw [if_neg (by rw [e];decide)]
   rw [e,e2];refine (rwalk_pages a L.length cap N (jP hr.2.1 hr.2.2.1) (by omega) w S hS hp).mono ?_;rintro e w' ⟨rfl,hb⟩;exact ⟨⟨_,rfl,rep0 _ _⟩,hb⟩
theorem page_row {w:World} {a:Option Addr} {cap N:Nat} {L:List Int} (hr:Row w a cap L) (hil:L.length=256*N) (hN:8<=N):∃b off,a=some ⟨b,off,none⟩/\Row w (some ⟨b,off,none⟩) cap (pageOf L 0)/\Row w (some ⟨b,off+256,none⟩) (cap-256) (pageOf L 1)/\(pageOf L 0).length=256/\(pageOf L 1).length=256:=by
 obtain ⟨b,off,rfl⟩:=hr.some' (by omega);have h2:=hr.2.1;have h3:=hr.2.2.1;have e0:(pageOf L 0).length=256:=by unfold pageOf;simp;omega
 have e1:(pageOf L 1).length=256:=by unfold pageOf;simp;omega
 refine ⟨b,off,rfl,⟨fun z hz=>hr.1 z (jV (jU hz)),by omega,h3,.inr ⟨b,off,rfl,fun i hi=>?_⟩⟩,⟨fun z hz=>hr.1 z (jV (jU hz)),by omega,by omega,.inr ⟨b,off+256,rfl,fun i hi=>?_⟩⟩,e0,e1⟩
 ·rw [hr.cells i (by omega)];unfold pageOf;rw [jA,jA,xZ,if_pos (by omega),qO,Nat.zero_mul,qT]
 ·rw [yJ,hr.cells (256+i) (by omega)];unfold pageOf;rw [jA,jA,xZ,if_pos (by omega),qO,Nat.one_mul]
def sp8:Array Value:= #[.int .i64 0,.int .i64 0,.int .i64 0,.int .i64 0,.int .i64 0,.int .i64 0,.int .i64 0,.int .i64 0]
theorem StS_run {w:World} {g:Nat} {old:Array Value} {S:Sp} (hg:w.heap[g]?=some (.cells old 29 (0,0))) (ho:old.size=8):(StS (.pointer (some ⟨g,0,none⟩)) (.agg (spC S))).run prog w=.ok () (w.setRow g (spC S)):=by
 unfold StS;simp only [Instr.storeAt,Instr.sureAddr,Sem.run_bind,Sem.run_pure,Result.andThen_ok];rw [run_storeVar_row w g 29 29 old (spC S) hg (by kernel_rfl) ho (by simp [spC,Value.oneCell'])]
theorem StS_new (w:World) (S:Sp):(StS (.pointer (some ⟨w.heap.size,0,none⟩)) (.agg (spC S))).run prog (w.alloc (.cells sp8 29))=.ok () ((w.alloc (.cells sp8 29)).setRow w.heap.size (spC S)):=StS_run (heap_alloc_new w _) rfl
def Chosen (w wx:World) (b4:Nat) (S:Sp):Prop:=wx.heap[b4]?=some (.cells (spC S) 29 (0,0))/\Below w.heap.size w wx/\wx.heap[w.heap.size]?=some (.cells rp0C 95 (0,0))
theorem chosen_a {w w0 w5:World} {S:Sp} (hB:Below w.heap.size w w0) (hr:w0.heap[w.heap.size]?=some (.cells rp0C 95 (0,0))) (hb:Below w0.heap.size w0.drew w5):Chosen w ((w5.alloc (.cells sp8 29)).setRow w5.heap.size (spC S)) w5.heap.size S:=by
 have hb':Below w0.heap.size w0 w5:=⟨hb.os,hb.tape,hb.output,hb.size,hb.block⟩;have hlt:=yR hr;have hs:=hb'.size;refine ⟨setRow_heap _ _ _ _ _ _ (heap_alloc_new w5 _),?_,?_⟩
 ·have h1:=(hB.trans (hb'.mono hB.size)).alloc (by have:=hB.size;omega) (.cells sp8 29);exact ((Ch.of (fun _=>False) h1).setRow (.inl (by have:=hB.size;omega)) _).below (fun k e=>by cases e)
 ·rw [setRow_other _ _ _ _ (by omega),heap_alloc_old _ _ (by omega),hb'.block _ hlt];exact hr
theorem chosen_b {w w0 w5:World} {S:Sp} {o:Obj} (hB:Below w.heap.size w w0) (hr:w0.heap[w.heap.size]?=some (.cells rp0C 95 (0,0))) (hs0:w0.heap.size=w.heap.size+1) (ho:o=.cells sp8 29) (hb:Below (w0.alloc o).heap.size (w0.alloc o).drew w5):Chosen w (w5.setRow (w.heap.size+1) (spC S)) (w.heap.size+1) S:=by
 subst ho;have hb':Below (w0.alloc (.cells sp8 29)).heap.size (w0.alloc (.cells sp8 29)) w5:=⟨hb.os,hb.tape,hb.output,hb.size,hb.block⟩
 have hz:w5.heap[w.heap.size+1]?=some (.cells sp8 29 (0,0)):=by
  rw [hb'.block _ (by rw [zE];omega),<-hs0];exact heap_alloc_new w0 _
 have h1:=(hB.alloc hB.size (.cells sp8 29)).trans (hb'.mono (by rw [zE];omega));refine ⟨setRow_heap _ _ _ _ _ _ hz,((Ch.of (fun _=>False) h1).setRow (.inl (by omega)) _).below (fun k e=>by cases e),?_⟩;rw [setRow_other _ _ _ _ (by omega),hb'.block _ (by rw [zE];omega),heap_alloc_old _ _ (by omega)];exact hr
theorem XU {w w1:World} {cs:Array Value} (hb:Below w.heap.size w w1) (hr:w1.heap[w.heap.size]?=some (.cells rp0C 95 (0,0))) (hc:cs.size=14) (h1:cs.all (·.oneCell')=true):
  (StR (.pointer (some ⟨w.heap.size,0,none⟩)) (.agg cs)).run prog w1=.ok () (w1.setRow w.heap.size cs)/\(w1.setRow w.heap.size cs).heap[w.heap.size]?=some (.cells cs 95 (0,0))/\Below w.heap.size w (w1.setRow w.heap.size cs):=
 ⟨UZ hr rfl hc h1,setRow_heap w1 _ _ _ _ _ hr,((Ch.of (fun _=>False) hb).setRow (.inl (jB _)) _).below (fun k e=>by cases e)⟩
theorem UQ:rp0C= #[.int .i64 0,.int .i64 0,.int .i64 0,.int .i64 0,.int .i64 0,.int .i64 0,.int .i64 0,.int .i64 0,.int .i64 0,.slice none 0 0,.slice none 0 0,.slice none 0 0,.slice none 0 0,.int .i64 0]:=rfl
theorem rp0_one:rp0C.size=14/\rp0C.all (·.oneCell')=true:=⟨rfl,VS ..⟩
theorem StR_new (w:World) {cs:Array Value} (hc:cs.size=14) (h1:cs.all (·.oneCell')=true):(StR (.pointer (some ⟨w.heap.size,0,none⟩)) (.agg cs)).run prog (w.alloc (.cells rp0C 95))=.ok () ((w.alloc (.cells rp0C 95)).setRow w.heap.size cs):=UZ (heap_alloc_new w _) rfl hc h1
theorem LdR_run {w:World} {g:Nat} {cs:Array Value} (hg:w.heap[g]?=some (.cells cs 95 (0,0))) (hc:cs.size=14):(LdR (.pointer (some ⟨g,0,none⟩))).run prog w=.ok (.agg cs) w:=by
 unfold LdR;simp only [Instr.loadAt,Instr.sureAddr,Sem.run_bind,Sem.run_pure,Result.andThen_ok,run_loadVar_row (P:=prog) w g 95 95 cs (0,0) _ hg underlying95 rfl (by rw [hc];kernel_rfl)]
attribute [local go_sem ↓] GX LdR_eq KO
set_option maxRecDepth 20000 in
theorem raopen_any (a:Option Addr) (cap N:Nat) (L:List Int) (w:World) (hr:Row w a cap L) (hil:L.length=256*N) (hN8:8<=N) (h4:N<=4096) (E:Int) (hE:oaE L=E) (R:Rp) (hR:oaR L=R) (hz0:(chS (pageOf L 0) (pageOf L 1)).r=0):
  Calls prog 67 #[.slice a L.length cap] w fun e w'=>(∃v,e=.returned (.tuple #[v,.int .i64 E])/\RepIs w.heap.size w' v R)/\Below w.heap.size w w':=by
 obtain ⟨b,off,rfl,hr0,hr1,l0,l1⟩:=page_row hr hil hN8;obtain ⟨S,hS⟩:∃S,chS (pageOf L 0) (pageOf L 1)=S:=⟨_,rfl⟩;have HR0:Hid (S.r=0):=by rw [<-hS];exact hz0
 clear hz0;obtain ⟨P,hP⟩:∃P,chP (pageOf L 0) (pageOf L 1)=P:=⟨_,rfl⟩;obtain ⟨X,hX⟩:∃X,chE (pageOf L 0) (pageOf L 1)=X:=⟨_,rfl⟩;have HC:Hid (∀w1,Below w.heap.size w w1->Calls prog 117 #[.slice (some ⟨b,off,none⟩) 256 cap,.slice (some ⟨b,off+256,none⟩) 256 (cap-256)] w1 fun e w'=>e=.returned (.tuple #[spV S,.int .i64 P,.int .i64 X])/\Below w1.heap.size w1 w'):=fun w1 hb=>rchoose_v _ _ cap (cap-256) 256 256 _ _ w1 (hr0.below hb) l0 (hr1.below hb) l1 S hS P hP X hX
 have HL:Hid (L.length=256*N/\Row w (some ⟨b,off,none⟩) cap L):=⟨hil,hr⟩
 have HEE:Hid ((if X=0 then (if waE L S=0 then 0 else 8) else X)=E/\(if E=0 then {waR L S with pl:=P} else rp0)=R):=by
  refine ⟨?_,?_⟩
  ·rw [<-hE];unfold oaE opX;rw [hX,hS]
  ·rw [<-hR,<-hE];unfold oaR;rw [hS,hP]
 have hcap:=hr.2.2.1;have hlc:=hr.2.1;obtain ⟨LL,hLL⟩:∃LL,L.length=LL:=⟨_,rfl⟩;have HLL:Hid (L.length=LL):=hLL;rw [hLL] at hlc ⊢;unfold maxLen at hcap;have h512:512<=LL:=by omega
 clear hr hil hr0 hr1 l0 l1 hS hP hX hLL hE hR;go_enter func67,ntmps67
 go_upto_region 1 with fail
 have HB0:Hid (Below w.heap.size w (w.alloc (.cells rp0C 95))/\(w.alloc (.cells rp0C 95)).heap[w.heap.size]?=some (.cells rp0C 95 (0,0))):=⟨(Below.refl _ w).alloc (jB _) _,heap_alloc_new w _⟩;obtain ⟨w0,hw0⟩:∃w0,w.alloc (.cells rp0C 95)=w0:=⟨_,rfl⟩;have hs0:w0.heap.size=w.heap.size+1:=by rw [<-hw0];simp
 rw [hw0] at HB0;unfold rp0C rpC sp0 at hw0;simp only at hw0;rw [hw0];clear hw0;go_cut [4,5,6] (fun s4 s5 s6 wx=>∃b4,s4=.pointer (some ⟨b4,0,none⟩)/\s5=.int .i64 P/\s6=.int .i64 X/\Hid (Chosen w wx b4 S))
 case first=>
  have HSA:∀w':World,_:=fun w'=>StS_new w' S
  unfold spV at HC;unfold spC sp8 at HSA;have HC2:Hid (∀w1,Below w.heap.size w w1->Calls prog 117 #[.slice (some ⟨b,off,none⟩) 256 cap,.slice (some ⟨b,off+256,none⟩) 256 (cap-256)] w1 fun e w'=>e=.returned (.tuple #[.agg #[.int .i64 S.g,.int .i64 S.p,.int .i64 S.r,.int .i64 S.h,.int .i64 S.b,.int .i64 S.l,.int .i64 S.s,.int .i64 S.f],.int .i64 P,.int .i64 X])/\Below w1.heap.size w1 w'/\(w1.heap[w.heap.size+1]?=some (.cells sp8 29 (0,0))->(StS (.pointer (some ⟨w.heap.size+1,0,none⟩)) (.agg #[.int .i64 S.g,.int .i64 S.p,.int .i64 S.r,.int .i64 S.h,.int .i64 S.b,.int .i64 S.l,.int .i64 S.s,.int .i64 S.f])).run prog w'=.ok () (w'.setRow (w.heap.size+1) (spC S)))):=fun w1 hb=>(HC.out w1 hb).mono (fun e w' ⟨h1,h2⟩=>⟨h1,h2,fun h3=>StS_run ((h2.block _ (yR h3)).trans h3) rfl⟩)
  go_region_with (go_at_call 117;refine (HC2.out _ (by first|exact HB0.out.1.drew|exact (HB0.out.1.alloc HB0.out.1.size _).drew|exact HB0.out.1|exact (HB0.out.1.alloc HB0.out.1.size _))).mono ?_;rintro e w5 ⟨rfl,hb5,hi5⟩;have HB5:Hid _:=hb5;clear hb5;(first|(replace hi5:=hi5 (by rw [<-hs0];exact heap_alloc_new w0 _))|clear hi5))
  all_goals go_wp2_with fail
  all_goals go_meet
  all_goals first|exact ⟨_,rfl,rfl,rfl,chosen_a HB0.out.1 HB0.out.2 HB5.out⟩|exact ⟨_,rfl,rfl,rfl,chosen_b HB0.out.1 HB0.out.2 hs0 rfl HB5.out⟩
 case rest=>
  obtain ⟨b4,rfl,rfl,rfl,HCh⟩:=hcut;have hsc:=HCh.out.1;have hbc:=HCh.out.2.1;have hrc:=HCh.out.2.2;have s0:wc.cell? ⟨b4,0,none⟩=some (.int .i64 S.g):=by rw [cell_of_row wc _ _ _ _ (0,0) hsc];rfl
  have s1:wc.cell? ⟨b4,1,none⟩=some (.int .i64 S.p):=by rw [cell_of_row wc _ _ _ _ (0,0) hsc];rfl
  have s2:wc.cell? ⟨b4,2,none⟩=some (.int .i64 S.r):=by rw [cell_of_row wc _ _ _ _ (0,0) hsc];rfl
  have s3:wc.cell? ⟨b4,3,none⟩=some (.int .i64 S.h):=by rw [cell_of_row wc _ _ _ _ (0,0) hsc];rfl
  have s4:wc.cell? ⟨b4,4,none⟩=some (.int .i64 S.b):=by rw [cell_of_row wc _ _ _ _ (0,0) hsc];rfl
  have s5:wc.cell? ⟨b4,5,none⟩=some (.int .i64 S.l):=by rw [cell_of_row wc _ _ _ _ (0,0) hsc];rfl
  have s6:wc.cell? ⟨b4,6,none⟩=some (.int .i64 S.s):=by rw [cell_of_row wc _ _ _ _ (0,0) hsc];rfl
  have s7:wc.cell? ⟨b4,7,none⟩=some (.int .i64 S.f):=by rw [cell_of_row wc _ _ _ _ (0,0) hsc];rfl
  by_cases hX0:X=0
  ·subst hX0;have hwk:=rwalk_any (some ⟨b,off,none⟩) cap N L wc (HL.out.2.below hbc) HL.out.1 hN8 h4 S HR0.out;rw [HLL.out] at hwk
   have HEQ:Hid ((if waE L S=0 then 0 else 8)=E/\(if E=0 then {waR L S with pl:=P} else rp0)=R/\(waE L S=0->(waR L S).pl= -1)):=by
    refine ⟨?_,HEE.out.2,fun h=>?_⟩
    ·have:=HEE.out.1;rw [if_pos rfl] at this;exact this
    ·unfold waR;rw [if_pos h]
   obtain ⟨Y,hY⟩:∃Y,waE L S=Y:=⟨_,rfl⟩;obtain ⟨Z,hZ⟩:∃Z,waR L S=Z:=⟨_,rfl⟩;rw [hY,hZ] at hwk HEQ;have HBC:Hid (Below w.heap.size w wc/\wc.heap[w.heap.size]?=some (.cells rp0C 95 (0,0))):=⟨hbc,hrc⟩;clear hY hZ hsc hbc hrc HEE HCh;unfold spV at hwk;go_wp2_with fail
   refine hwk.mono ?_;clear hwk;rintro e w5 ⟨⟨v,rfl,hrep⟩,hb5⟩;obtain ⟨aP,cP,aT,cT,aS,cS,aG,cG,rfl,q1,q2,q3,q4,q5⟩:=hrep;obtain ⟨cx,hcx⟩:∃cx,rpC Z.s Z.pl (.slice aP Z.pc.length cP) (.slice aT Z.tx.length cT) (.slice aS Z.st.length cS) (.slice aG Z.pg.length cG) Z.h=cx:=⟨_,rfl⟩;have hcs:cx.size=14/\cx.all (·.oneCell')=true:=by rw [<-hcx];exact ⟨rfl,VS ..⟩
   have hst:=StR_new w5 hcs.1 hcs.2;have hb6:Below w5.heap.size w5 ((w5.alloc (.cells rp0C 95)).setRow w5.heap.size cx):=((Ch.of (fun _=>False) ((Below.refl w5.heap.size w5).alloc (jB _) _)).setRow (.inl (jB _)) _).below (fun k e=>by cases e);have hg6:((w5.alloc (.cells rp0C 95)).setRow w5.heap.size cx).heap[w5.heap.size]?=some (.cells cx 95 (0,0)):=setRow_heap _ _ _ _ _ _ (heap_alloc_new w5 _);obtain ⟨w6,hw6⟩:∃w6,(w5.alloc (.cells rp0C 95)).setRow w5.heap.size cx=w6:=⟨_,rfl⟩;rw [hw6] at hst hb6 hg6;rw [hcx];have hbw:=HBC.out.1.trans (hb5.mono HBC.out.1.size);have hr5:=(hb5.block _ (yR HBC.out.2)).trans HBC.out.2
   have H6:Hid (Below w.heap.size w w6/\w6.heap[w.heap.size]?=some (.cells rp0C 95 (0,0))/\(RowC w5 aP cP Z.pc/\Row w5 aT cT Z.tx/\Row w5 aS cS Z.st/\RowI w5 aG cG Z.pg/\Below w5.heap.size w5 w6/\∀k,(obl aP k\/obl aT k\/obl aS k\/obl aG k)->w.heap.size<k)/\w6.heap[w5.heap.size]?=some (.cells cx 95 (0,0))/\w.heap.size<w5.heap.size):=
    ⟨hbw.trans (hb6.mono hbw.size),(hb6.block _ (yR hr5)).trans hr5,⟨q1,q2,q3,q4,hb6,fun k hk=>by have:=q5 k hk;have:=yR HBC.out.2;omega⟩,hg6,yR hr5⟩
   have HCX:Hid _:=hcx;have HCS:Hid _:=hcs;rw [UQ] at hst;clear hcx hcs hb6 hg6 hw6 hbw hr5 q1 q2 q3 q4 q5 hb5 HBC s0 s1 s2 s3 s4 s5 s6 s7;by_cases hY:Y=0
   ·subst hY;have hE:E=0:=HEQ.out.1.symm;have hR:R={Z with pl:=P}:=by have:=HEQ.out.2.1;rw [if_pos hE] at this;exact this.symm
    have hpl:Z.pl= -1:=HEQ.out.2.2 rfl;have hc8:w6.cell? ⟨w5.heap.size,8,none⟩=some (.int .i64 (-1)):=by rw [cell_of_row w6 _ _ _ _ (0,0) H6.out.2.2.2.1,<-HCX.out,hpl];rfl
    have hz8:w6.frozen? ⟨w5.heap.size,8,none⟩=false:=by unfold World.frozen?;rw [H6.out.2.2.2.1];simp
    obtain ⟨cy,hcy⟩:∃cy,rpC Z.s P (.slice aP Z.pc.length cP) (.slice aT Z.tx.length cT) (.slice aS Z.st.length cS) (.slice aG Z.pg.length cG) Z.h=cy:=⟨_,rfl⟩;have hys:cy.size=14/\cy.all (·.oneCell')=true:=by rw [<-hcy];exact ⟨rfl,VS ..⟩
    have hg7:(w6.setCell ⟨w5.heap.size,8,none⟩ (.int .i64 P)).heap[w5.heap.size]?=some (.cells cy 95 (0,0)):=by rw [yO _ _ _ _ _ _ _ H6.out.2.2.2.1,<-HCX.out,<-hcy];rfl
    have hb7:Below w5.heap.size w5 (w6.setCell ⟨w5.heap.size,8,none⟩ (.int .i64 P)):=H6.out.2.2.1.2.2.2.2.1.setCell (jB _) _;have hbw7:Below w.heap.size w (w6.setCell ⟨w5.heap.size,8,none⟩ (.int .i64 P)):=H6.out.1.setCell (p:=⟨w5.heap.size,8,none⟩) (Nat.le_of_lt H6.out.2.2.2.2) _;have hr7:(w6.setCell ⟨w5.heap.size,8,none⟩ (.int .i64 P)).heap[w.heap.size]?=some (.cells rp0C 95 (0,0)):=(Below.heap_setCell w6 ⟨w5.heap.size,8,none⟩ _ w.heap.size (Nat.ne_of_lt H6.out.2.2.2.2)).trans H6.out.2.1;have hld:=LdR_run hg7 hys.1;obtain ⟨n1,n2,n3⟩:=XU (cs:=cy) hbw7 hr7 hys.1 hys.2
    have HN:Hid ((((w6.setCell ⟨w5.heap.size,8,none⟩ (.int .i64 P)).setRow w.heap.size cy).heap[w.heap.size]?=some (.cells cy 95 (0,0)))/\Below w.heap.size w ((w6.setCell ⟨w5.heap.size,8,none⟩ (.int .i64 P)).setRow w.heap.size cy)/\cy.size=14/\RepIs w.heap.size ((w6.setCell ⟨w5.heap.size,8,none⟩ (.int .i64 P)).setRow w.heap.size cy) (.agg cy) R):=by
     obtain ⟨q1,q2,q3,q4,-,q6⟩:=H6.out.2.2.1;have lt5:∀k,k<w5.heap.size->w.heap.size<k->((w6.setCell ⟨w5.heap.size,8,none⟩ (.int .i64 P)).setRow w.heap.size cy).heap[k]?=w5.heap[k]?:=fun k h1 h2=>(setRow_other _ _ k cy (by omega)).trans (hb7.block k h1)
     refine ⟨n2,n3,hys.1,aP,cP,aT,cT,aS,cS,aG,cG,by rw [<-hcy,hR],?_,?_,?_,?_,fun k hk=>by have:=q6 k hk;omega⟩
     ·rw [hR];obtain ⟨r1,r2,r3,r4⟩:=q1;refine ⟨r1,r2,r3,?_⟩;rcases r4 with r4|⟨b',off',e,hc⟩
      ·exact .inl r4
      ·exact .inr ⟨b',off',e,fun i hi=>(hc i hi).same (lt5 b' (hc i hi).lt (q6 b' (.inl ⟨_,e,rfl⟩)))⟩
     ·rw [hR];obtain ⟨r1,r2,r3,r4⟩:=q2;refine ⟨r1,r2,r3,?_⟩;rcases r4 with r4|⟨b',off',e,hc⟩
      ·exact .inl r4
      ·exact .inr ⟨b',off',e,fun i hi=>(World.cell?_of_block (w:=w5) (a:=⟨b',off'+i,none⟩) (lt5 b' (block_lt_of_cell (hc i hi)) (q6 b' (.inr (.inl ⟨_,e,rfl⟩))))).trans (hc i hi)⟩
     ·rw [hR];obtain ⟨r1,r2,r3,r4⟩:=q3;refine ⟨r1,r2,r3,?_⟩;rcases r4 with r4|⟨b',off',e,hc⟩
      ·exact .inl r4
      ·exact .inr ⟨b',off',e,fun i hi=>(World.cell?_of_block (w:=w5) (a:=⟨b',off'+i,none⟩) (lt5 b' (block_lt_of_cell (hc i hi)) (q6 b' (.inr (.inr (.inl ⟨_,e,rfl⟩)))))).trans (hc i hi)⟩
     ·rw [hR];obtain ⟨r1,r2,r3⟩:=q4;refine ⟨r1,r2,?_⟩;rcases r3 with r4|⟨b',off',e,hc⟩
      ·exact .inl r4
      ·exact .inr ⟨b',off',e,fun i hi=>(World.cell?_of_block (w:=w5) (a:=⟨b',off'+i,none⟩) (lt5 b' (block_lt_of_cell (hc i hi)) (q6 b' (.inr (.inr (.inr ⟨_,e,rfl⟩)))))).trans (hc i hi)⟩
    have HE0:Hid (E=0):=hE;clear hE hR hpl hcy hys hg7 hb7 hbw7 hr7 n2 n3;go_wp2;refine bodyPost_ret (yU rfl _ _ w.heap.size _ _ (0,0) _ rfl HN.out.1 underlying95 rfl (by rw [HN.out.2.2.1];kernel_rfl)) rfl ?_;rw [HE0.out];exact ⟨⟨_,rfl,HN.out.2.2.2⟩,HN.out.2.1⟩
   ·have hY1:(Y==0)=false:=by simpa using hY
    have hY2:(Y !=0)=true:=by unfold bne;rw [hY1];rfl
    obtain ⟨n1,n2,n3⟩:=XU (cs:=rp0C) H6.out.1 H6.out.2.1 rp0_one.1 rp0_one.2;have HN:Hid _:=And.intro n2 n3
    have hE:Hid (E=8/\R=rp0):=by
     have e1:E=8:=by have:=HEQ.out.1;rw [if_neg hY] at this;exact this.symm
     refine ⟨e1,?_⟩;have:=HEQ.out.2.1;rw [if_neg (by rw [e1];decide)] at this;exact this.symm
    rw [UQ] at n1;clear n2 n3 hY hY1;go_wp2;refine bodyPost_ret (yU rfl _ _ w.heap.size _ _ (0,0) _ rfl HN.out.1 underlying95 rfl (by kernel_rfl)) rfl ?_;rw [hE.out.1,hE.out.2];exact ⟨⟨_,rfl,rep0 _ _⟩,HN.out.2⟩
  ·have hX1:(X==0)=false:=by simpa using hX0
   have hX2:(X !=0)=true:=by unfold bne;rw [hX1];rfl
   obtain ⟨n1,n2,n3⟩:=XU (cs:=rp0C) hbc hrc rp0_one.1 rp0_one.2;have HN:Hid _:=And.intro n2 n3
   have hE:Hid (E=X/\R=rp0):=by
    have e1:E=X:=by have:=HEE.out.1;rw [if_neg hX0] at this;exact this.symm
    refine ⟨e1,?_⟩;have:=HEE.out.2;rw [if_neg (by rw [e1];exact hX0)] at this;exact this.symm
   rw [UQ] at n1;clear n2 n3 hX0 hX1 hsc hbc hrc s0 s1 s2 s3 s4 s5 s6 s7;go_wp2;refine bodyPost_ret (yU rfl _ _ w.heap.size _ _ (0,0) _ rfl HN.out.1 underlying95 rfl (by kernel_rfl)) rfl ?_;rw [hE.out.1,hE.out.2];exact ⟨⟨_,rfl,rep0 _ _⟩,HN.out.2⟩
end Go.Proofs.YtaijfhadecennaaGreat.Oct
namespace Go.Proofs.YtaijfhadecennaaGreat.Oct.Sx
open Go.RowKit
attribute [local go_sem ↓] KO
section
variable {w w':World} {s d:Nat} {F:Nat->Prop} {X:St}
theorem Sto.cell (h:Sto w s d F X) (i:Nat) (v:Value) (hv:∀p sp vC,(stC d p sp X.S X.pl vC X.g)[i]?=some v):w.cell? ⟨s,i,none⟩=some v:=by
 obtain ⟨p,sp,aC,cC,lab,hS,_⟩:=h;rw [hS.cell,hv]
theorem Sto.lt2 (h:Sto w s d F X):s<w.heap.size:=by
 obtain ⟨p,sp,aC,cC,lab,hS,_⟩:=h;exact hS.lt
theorem results_s8 {fn:Func} {p:Tmp} (h:fn.results= #[.cell p 29]) (tmps:Array Value) (w:World) (g:Nat) (cs:Array Value)
  (hp:tmps.getD p undef=.pointer (some ⟨g,0,none⟩)) (hg:w.heap[g]?=some (.cells cs 29 (0,0))) (hc:cs.size=8):
  (results fn tmps).run prog w=.ok (.agg cs) w:=by
 have h1:=run_loadVar_row (P:=prog) w g 29 29 cs (0,0) _ hg underlying29 rfl (by rw [hc];kernel_rfl);have hp':tmps[p]?.getD undef=.pointer (some ⟨g,0,none⟩):=by simpa using hp
 simp [results,h,hp',asAddr,h1]
theorem FP (h:Sto w s d F X):Calls prog 13 #[.pointer (some ⟨s,0,none⟩)] w fun e w'=>e=.returned (spV X.S)/\Below w.heap.size w w':=by
 have s0:=h.cell 0 (.pointer (some ⟨d,0,none⟩)) (fun _ _ _=>rfl);have s3:=h.cell 3 (.int .i64 X.S.g) (fun _ _ _=>rfl);have s4:=h.cell 4 (.int .i64 X.S.p) (fun _ _ _=>rfl);have s5:=h.cell 5 (.int .i64 X.S.r) (fun _ _ _=>rfl);have s6:=h.cell 6 (.int .i64 X.S.h) (fun _ _ _=>rfl);have s7:=h.cell 7 (.int .i64 X.S.b) (fun _ _ _=>rfl);have s8:=h.cell 8 (.int .i64 X.S.l) (fun _ _ _=>rfl);have s9:=h.cell 9 (.int .i64 X.S.s) (fun _ _ _=>rfl);have s10:=h.cell 10 (.int .i64 X.S.f) (fun _ _ _=>rfl);have hsl:=h.lt2;have hmd:=fun (wx:World) (hx:wx.cell? ⟨s,0,none⟩=some (.pointer (some ⟨d,0,none⟩)))=>YK s d wx hx
 have hst:=StS_new w X.S
 have HB:Hid (((w.alloc (.cells sp8 29)).setRow w.heap.size (spC X.S)).heap[w.heap.size]?=some (.cells (spC X.S) 29 (0,0))/\Below w.heap.size w ((w.alloc (.cells sp8 29)).setRow w.heap.size (spC X.S))):=
  ⟨setRow_heap _ _ _ _ _ _ (heap_alloc_new w _),((Ch.of (fun _=>False) ((Below.refl _ w).alloc (jB _) _)).setRow (.inl (jB _)) _).below (fun k e=>by cases e)⟩
 obtain ⟨w9,hw9⟩:∃w9,(w.alloc (.cells sp8 29)).setRow w.heap.size (spC X.S)=w9:=⟨_,rfl⟩;rw [hw9] at hst HB;unfold spC sp8 at hst;clear h hw9;go_enter func13,ntmps13
 go_wp2_with (go_at_call 55;refine (hmd _ (by go_simp)).mono ?_;rintro e w' ⟨rfl,rfl⟩)
 refine bodyPost_ret (results_s8 rfl _ _ w.heap.size _ rfl HB.out.1 rfl) rfl ?_;exact ⟨rfl,HB.out.2⟩
theorem KQ (h:Sto w s d F X):Calls prog 39 #[.pointer (some ⟨s,0,none⟩)] w fun e w'=>e=.returned (.pointer (some ⟨d,0,none⟩))/\w=w':=by
 have s0:=h.cell 0 (.pointer (some ⟨d,0,none⟩)) (fun _ _ _=>rfl);have hmd:=YK s d w s0;clear h;go_enter func39,ntmps39
 go_wp2_with (go_at_call 55;refine hmd.mono ?_;rintro e w' ⟨rfl,rfl⟩)
 go_ret
 exact ⟨rfl,rfl⟩
end
end Go.Proofs.YtaijfhadecennaaGreat.Oct.Sx
