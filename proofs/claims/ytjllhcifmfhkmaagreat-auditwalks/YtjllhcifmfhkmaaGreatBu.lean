/- Part of a proof. -/
import Derived.Test.YtjllhcifmfhkmaaGreatLwg
import Derived.Test.YtjllhcifmfhkmaaGreatUl
import Derived.Test.YtjllhcifmfhkmaaGreatAuv
import Derived.Test.YtjllhcifmfhkmaaGreatR
import Derived.Test.YtjllhcifmfhkmaaGreatYa
set_option maxHeartbeats 4000000
namespace Go.Proofs.YtjllhcifmfhkmaaGreat.Oct
open Go.RowKit
attribute [local go_sem ↓] StR_eq StS_eq LdR_eq
set_option maxRecDepth 20000 in
theorem rwalk_go (a:Option Addr) (cap N:Nat) (L:List Int) (w:World) (hr:Row w a cap L) (hil:L.length=256*N) (hN8:8≤N) (h4:N≤4096) (S:Sp) (hS:okS S=true) (hp:S.p=(N:Int)) (E:Int) (hE:waE L S=E) (R:Rp) (hR:waR L S=R):
  Calls Tryz.prog 20 #[.slice a L.length cap,spV S] w fun e w'=>(∃v,e=.returned (.tuple #[v,.int .i64 E])∧RepIs w.heap.size w' v R)∧Below w.heap.size w w':=by
 have C:=rcheck_any S (bx w S);rw [show enE S=0 by unfold enE;rw [hS];rfl] at C;have HB:Hid (Below w.heap.size w (bx w S)∧(bx w S).heap.size=w.heap.size+2∧(bx w S).heap[w.heap.size+1]?=some (.cells rp0C 41 (0,0))∧(bx w S).heap[w.heap.size]?=some (.cells (spC S) 28 (0,0))):=⟨bx_below w S,bx_size w S,bx_r w S,bx_s w S⟩;have HL:Hid (L.length=256*N∧okS S=true∧Row w a cap L∧S.p=(N:Int)):=⟨hil,hS,hr,hp⟩;have HER:Hid (waE L S=E∧waR L S=R):=⟨hE,hR⟩;clear hE hR;have hcap:=hr.2.2.1;have hlc:=hr.2.1;obtain ⟨LL,hLL⟩:∃LL,L.length=LL:=⟨_,rfl⟩;rw [hLL] at hlc ⊢;have HLL:Hid (L.length=LL):=hLL;unfold maxLen at hcap;have hq:(LL:Int)/256=(N:Int):=by omega
 have hS':=hS;unfold okS fitS ldB at hS';simp only [Bool.and_eq_true,decide_eq_true_eq] at hS'
 have HSB:Hid (((0≤S.h∧S.h≤32)∧(S.h=0↔S.r=0))∧((0≤S.b∧S.b≤1048576)∧(S.b=0↔S.r=0))∧(0≤S.l∧S.l≤S.b)∧(S.r=0∨2≤S.r∧S.r≤S.p-1)∧(S.s=0∨2≤S.s∧S.s≤S.p-1)∧(S.f=0∨2≤S.f∧S.f≤S.p-1)):=by
  show _∧_;refine ⟨by omega,by omega,by omega,by omega,by omega,by omega⟩
 obtain ⟨i0,hi0,hz0,hz1,hz2⟩:=info_parts info5;unfold spV at C ⊢;clear hS hil hr hS' hLL hp;go_enter Tryz.func20,Tryz.ntmps20
 go_wp2_with fail
 refine C.mono ?_;clear C;rintro e w1 ⟨rfl,hb⟩;have hrr:=(hb.block (w.heap.size+1) (by have:=HB.out.2.1;omega)).trans HB.out.2.2.1;have hs:=(hb.block (w.heap.size) (by have:=HB.out.2.1;omega)).trans HB.out.2.2.2;have s1:w1.cell? ⟨w.heap.size,1,none⟩=some (.int .i64 S.p):=by rw [cell_of_row w1 _ _ _ _ (0,0) hs];rfl
 rw [HL.out.2.2.2] at s1;have H1:Hid (Below w.heap.size w w1∧w1.heap[w.heap.size+1]?=some (.cells rp0C 41 (0,0))∧w1.heap[w.heap.size]?=some (.cells (spC S) 28 (0,0))):=⟨HB.out.1.trans (hb.mono HB.out.1.size),hrr,hs⟩;clear hb hrr hs HB;go_upto_region 8 with (at_make;refine wpList_make_full _ rfl _ _ 30 rfl w1.heap.size 5 i0 (.int .u8 0) 1 Tryz.underlying30 hi0 hz0 hz1 .i64 .i64 _ _ N rfl rfl rfl rfl (by rw [hz2];omega) (by unfold maxLen;omega) (Nat.le_refl _) ?_;intro w2 hown2 hgrow2;have H2:Hid (Own w1.heap.size w2 (.slice (some ⟨w1.heap.size,0,none⟩) N N) (List.replicate N 0)∧Below w1.heap.size w1 w2):=⟨made_own hown2,(Below.refl w1.heap.size w1).grown hgrow2 (Nat.le_refl _) (by simp)⟩;clear hown2 hgrow2)
 have H3:Hid (WkS w ((w2.alloc (.cells (wcs a LL cap w1.heap.size N N q00 none 0 0 none 0 0 false) 96)).alloc (.cells #[.int .i64 0,.int .i64 0,.int .i64 0] 98)) w2.heap.size N (fun k=>k=w2.heap.size∨k=w1.heap.size) a cap L q00 (wk0 N) S∧At3 ((w2.alloc (.cells (wcs a LL cap w1.heap.size N N q00 none 0 0 none 0 0 false) 96)).alloc (.cells #[.int .i64 0,.int .i64 0,.int .i64 0] 98)) (w2.heap.size+1) s30):=by
  obtain ⟨b1,r1,s1⟩:=H1.out;obtain ⟨o2,b2⟩:=H2.out;have hlt1:=heap_lt r1;have hw2:=b2.size
  have hia:∀k,obl a k→k<w.heap.size:=by
   rintro k ⟨x,rfl,rfl⟩;obtain ⟨b,off,e⟩:=HL.out.2.2.1.some' (by rw [HL.out.1];omega);cases e;exact block_lt_of_cell (HL.out.2.2.1.cells 0 (by rw [HL.out.1];omega))
  have hrow:=(HL.out.2.2.1.below b1).below b2;have st:=rw_start hrow HL.out.1 h4 o2 (fun k hk=>by have:=hia k hk;omega) hw2;rw [HLL.out] at st;have hbA:=(Below.refl w2.heap.size w2).alloc (Nat.le_refl _) (.cells (wcs a LL cap w1.heap.size N N q00 none 0 0 none 0 0 false) 96)
  have W1:WkS w (w2.alloc (.cells (wcs a LL cap w1.heap.size N N q00 none 0 0 none 0 0 false) 96)) w2.heap.size N (fun k=>k=w2.heap.size∨k=w1.heap.size) a cap L q00 (wk0 N) S:=
   {rw:=st,bel:=(b1.trans (b2.mono b1.size)).trans (hbA.mono (by omega)),s:=(hbA.block _ (by omega)).trans ((b2.block _ (by omega)).trans s1),r:=(hbA.block _ (by omega)).trans ((b2.block _ (by omega)).trans r1),lo:=fun k hk=>by rcases hk with rfl|rfl<;>omega,kl:=by simp [wk0],n0:=by omega,ilo:=hia}
  refine ⟨W1.below ((Below.refl _ _).alloc (Nat.le_refl _) _),?_⟩;have:=heap_alloc_new (w2.alloc (.cells (wcs a LL cap w1.heap.size N N q00 none 0 0 none 0 0 false) 96)) (.cells #[.int .i64 0,.int .i64 0,.int .i64 0] 98);rw [heap_alloc_size] at this;exact this
 obtain ⟨w3,hw3⟩:∃w3,((w2.alloc (.cells (wcs a LL cap w1.heap.size N N q00 none 0 0 none 0 0 false) 96)).alloc (.cells #[.int .i64 0,.int .i64 0,.int .i64 0] 98))=w3:=⟨_,rfl⟩;have hw3':=hw3;unfold wcs at hw3';simp only [q00] at hw3';simp at hw3';rw [hw3'];rw [hw3] at H3;obtain ⟨p,hpp⟩:∃p,w2.heap.size=p:=⟨_,rfl⟩;rw [hpp] at H3 ⊢;obtain ⟨gk0,hgk⟩:∃gk0,w1.heap.size=gk0:=⟨_,rfl⟩;rw [hgk] at H3 ⊢;have HPG:Hid (pgN L=N):=by show pgN L=N;unfold pgN;rw [HL.out.1];omega
 obtain ⟨A,hA⟩:∃A,wkA L S=A:=⟨_,rfl⟩;have HA:Hid (wkA L S=A):=hA;have hP1:¬(p+1=p∨p+1=gk0):=by have:=H2.out.2.size;omega
 have HP1:Hid (¬(p+1=p∨p+1=gk0)):=hP1;clear hw3 hw3' hpp hgk H1 H2 s1 hA hP1 hi0 hz0 hz1 hz2;obtain ⟨-,s2,s3,-,-,-,-⟩:=H3.out.1.at;obtain ⟨x0,x1,x2⟩:=H3.out.2.at;have t0:=H3.out.2.frz 0;have t1:=H3.out.2.frz 1;have t2:=H3.out.2.frz 2;go_upto_if 33 with fail
 go_cut [] (fun wx=>Hid (∃F,WkS w wx p N F a cap L q00 A.1 S∧At3 wx (p+1) A.2∧¬F (p+1)))
 case first=>
  by_cases hr0:S.r=0
  ·have hr1:(S.r==0)=true:=by simpa using hr0
   have hr2:(S.r !=0)=false:=by unfold bne;rw [hr1];rfl
   have HR:Hid (A=(wk0 N,s30)):=by show A=_;rw [←HA.out];unfold wkA;rw [if_pos hr0,HPG.out]
   clear hr0;go_wp2_with fail
   go_meet
   case rel=>exact ⟨_,by rw [HR.out];exact H3.out.1,by rw [HR.out];exact H3.out.2,HP1.out⟩
  ·have hr2:(S.r !=0)=true:=by unfold bne;rw [show (S.r==0)=false by simpa using hr0];rfl
   obtain ⟨lv,hlv⟩:=Int.eq_ofNat_of_zero_le (show 0≤S.h-1 by have:=HSB.out.1;omega);have hh:0≤S.h∧S.h≤32:=HSB.out.1.1;have hrb: -9223372036854775808≤S.r∧S.r≤9223372036854775807:=by have:=HSB.out.2.2.2.1;have:=HL.out.2.2.2;omega
   have HR:Hid (wtr L lv true S.r (wk0 N)=A):=by show _=A;rw [←HA.out];unfold wkA;rw [if_neg hr0,HPG.out,hlv];rfl
   have htr:=tree_any lv (by omega) w3 _ (wk0 N) S.r true H3.out.1.rw rfl ⟨Nat.le_refl _,fun _=>by simp [wk0]⟩ (by rw [H3.out.1.kl];omega) hrb;rw [HR.out] at htr;have HAL:Hid (A.1.kd.length=N):=by show _=N;rw [←HR.out,wtr_len];exact H3.out.1.kl
   clear hr0 hrb;obtain ⟨AW,As⟩:=A;unfold s3V at htr;simp only at htr HAL;go_wp2_with (go_at_call 45;refine htr.mono ?_;clear htr;rintro e w5 ⟨rfl,F5,h5,st5⟩;have h35:At3 w5 (p+1) s30:=H3.out.2.keep (st5.1.block _ H3.out.2.lt HP1.out);obtain ⟨y0,y1,y2⟩:=h35.at;have z0:=h35.frz 0;have z1:=h35.frz 1;have z2:=h35.frz 2;have H5:Hid (WkS w w5 p N F5 a cap L q00 AW S∧At3 w5 (p+1) s30∧¬F5 (p+1)):=⟨H3.out.1.step h5 st5 HAL.out,h35,st5.notin H3.out.2.lt HP1.out⟩;clear h5 st5 h35)
   go_meet
   case rel=>
    have hpx:=H5.out.1.lo p H5.out.1.rw.fp;exact ⟨F5,H5.out.1.other (put3_ch w5 (p+1) As) (by omega) H5.out.2.2,((H5.out.2.1.set0 _).set1 _).set2 _,H5.out.2.2⟩
 case rest=>
  clear s2 s3 x0 x1 x2 t0 t1 t2 H3 HP1;obtain ⟨F,hW,h3,-⟩:=hcut.out;obtain ⟨AW,ap,ab,al⟩:=A;obtain ⟨-,-,-,s4,s5,s6,s7⟩:=hW.at;obtain ⟨-,x1,x2⟩:=h3.at;simp only at x1 x2;obtain ⟨c16,z16⟩:=hW.rw.c16;have H3:Hid (WkS w wc p N F a cap L q00 AW S):=hW;obtain ⟨Bq,hBq⟩:∃Bq,(!(ab==S.b&&al==S.l))=Bq:=⟨_,rfl⟩;have HBq:Hid ((!(ab==S.b&&al==S.l))=Bq):=hBq;have HWB:Hid (wkB L S={AW with bad:=AW.bad||Bq}):=by show wkB L S=_;unfold wkB;rw [HA.out,←hBq]
  clear hW h3 hcut hBq HA;simp only at c16;go_upto_region 10 with fail
  go_cut [52] (fun s52 wx=>s52=.bool Bq∧wx=wc)
  case first=>
   by_cases e1:ab=S.b
   ·by_cases e2:al=S.l
    ·have f1:(ab==S.b)=true:=by simpa using e1
     have f2:(al==S.l)=true:=by simpa using e2
     have f3:(ab !=S.b)=false:=by unfold bne;rw [f1];rfl
     have f4:(al !=S.l)=false:=by unfold bne;rw [f2];rfl
     have hB:Bq=false:=by rw [←HBq.out,f1,f2];rfl
     clear e1 e2 f1 f2;go_wp2_with fail
     go_meet
     case rel=>exact ⟨by rw [hB],rfl⟩
    ·have f2:(al==S.l)=false:=by simpa using e2
     have f1:(ab==S.b)=true:=by simpa using e1
     have f3:(ab !=S.b)=false:=by unfold bne;rw [f1];rfl
     have f4:(al !=S.l)=true:=by unfold bne;rw [f2];rfl
     have hB:Bq=true:=by rw [←HBq.out,f1,f2];rfl
     clear e1 e2 f1 f2;go_wp2_with fail
     go_meet
     case rel=>exact ⟨by rw [hB],rfl⟩
   ·have f1:(ab==S.b)=false:=by simpa using e1
    have f3:(ab !=S.b)=true:=by unfold bne;rw [f1];rfl
    have hB:Bq=true:=by rw [←HBq.out,f1];rfl
    clear e1 f1;go_wp2_with fail
    go_meet
    case rel=>exact ⟨by rw [hB],rfl⟩
  case rest=>
   obtain ⟨rfl,rfl⟩:=hcut;obtain ⟨WB,hWB⟩:∃WB,wkB L S=WB:=⟨_,rfl⟩;rw [hWB] at HWB;have HWE:Hid (wkB L S=WB):=hWB;clear hWB;go_upto_if 52 with fail
   go_cut [] (fun wx=>Hid (WkS w wx p N F a cap L q00 WB S))
   case first=>
    cases Bq with
    |true=>
     go_wp2_with fail
     go_meet
     case rel=>
      show WkS _ _ _ _ _ _ _ _ _ _ _;rw [HWB.out,Bool.or_true];exact H3.out.step (H3.out.rw.setBad true) (Step.of (Ch.set H3.out.rw.fp _ _)) H3.out.kl
    |false=>
     go_wp2_with fail
     go_meet
     case rel=>
      show WkS _ _ _ _ _ _ _ _ _ _ _;rw [HWB.out,Bool.or_false];exact H3.out
   case rest=>
    clear s4 s5 s6 s7 x1 x2 c16 z16 H3 HWB HBq;have hW:=hcut.out;obtain ⟨-,-,-,-,-,s6,s7⟩:=hW.at;have H3:Hid (WkS w wc p N F a cap L q00 WB S):=hW;obtain ⟨C1,hC1⟩:∃C1,wkC L S=C1:=⟨_,rfl⟩;have hc1:chGo L 115 (N+1) S.s WB []=C1:=by rw [←hC1];unfold wkC;rw [HPG.out,HWE.out]
    have hsb: -9223372036854775808≤S.s∧S.s≤9223372036854775807:=by have:=HSB.out.2.2.2.2.1;have:=HL.out.2.2.2;omega
    have hfb: -9223372036854775808≤S.f∧S.f≤9223372036854775807:=by have:=HSB.out.2.2.2.2.2;have:=HL.out.2.2.2;omega
    have hch:=chain_any hW.rw (by rw [hW.kl];omega) 115 (by omega) (by decide) (by decide) S.s hsb (N+1) (by rw [hW.kl];omega) C1 hc1;have HC1:Hid (wkC L S=C1∧C1.1.kd.length=N):=⟨hC1,by rw [←hc1,chGo_len];exact hW.kl⟩;have HFB:Hid (-9223372036854775808≤S.f∧S.f≤9223372036854775807):=hfb;have lps:w.heap.size<wc.heap.size:=by have:=hW.lt;omega
    clear hW hcut hC1 hc1 hsb hfb HWE;obtain ⟨CW,st⟩:=C1;simp only at hch HC1;obtain ⟨sl,hsl⟩:∃sl,st.length=sl:=⟨_,rfl⟩;rw [hsl] at hch;have HSL:Hid (st.length=sl):=hsl;clear hsl;go_wp2_with fail
    refine hch.mono ?_;clear hch;rintro e w5 ⟨gs,cs,rfl,hos,hbs,h5,hc5⟩;have W5:WkS w w5 p N F a cap L q00 CW S:=H3.out.step h5 (Step.of hc5) HC1.out.2;have c13:=h5.c13.1;have z13:=h5.frz 13;simp only [q00] at c13;simp at c13;have hgs:∀k,obl gs k→wc.heap.size≤k∧k<w5.heap.size:=fun k hk=>World.ownsRow.lt hos k (own_obl hk)
    have hrs:Row w5 gs cs st:=(hos.row' hbs).2;have W6:WkS w (w5.setCell ⟨p,13,none⟩ (.slice gs sl cs)) p N F a cap L (fun k=>if k=9 then .slice gs sl cs else q00 k) CW S:=W5.step (h5.setQ 13 9 (.inl ⟨rfl,rfl⟩) _) (Step.of (Ch.set h5.fp _ _)) HC1.out.2;have hrs6:Row (w5.setCell ⟨p,13,none⟩ (.slice gs sl cs)) gs cs st:=hrs.keepO (fun g hg=>Below.heap_setCell w5 ⟨p,13,none⟩ _ g (fun e=>by have:=hgs g hg;have:=H3.out.rw.lt p H3.out.rw.fp;have e':g=p:=e;omega));have s7':=W6.at.2.2.2.2.2.2;obtain ⟨C2,hC2⟩:∃C2,wkD L S=C2:=⟨_,rfl⟩;have hc2:chGo L 102 (N+1) S.f CW []=C2:=by rw [←hC2];unfold wkD;rw [HPG.out,HC1.out.1]
    have hch:=chain_any W6.rw (by rw [W6.kl];omega) 102 (by omega) (by decide) (by decide) S.f HFB.out (N+1) (by rw [W6.kl];omega) C2 hc2;have HC2:Hid (wkD L S=C2∧C2.1.kd.length=N):=⟨hC2,by rw [←hc2,chGo_len];exact W6.kl⟩;have H6:Hid (WkS w (w5.setCell ⟨p,13,none⟩ (.slice gs sl cs)) p N F a cap L (fun k=>if k=9 then .slice gs sl cs else q00 k) CW S∧Row (w5.setCell ⟨p,13,none⟩ (.slice gs sl cs)) gs cs st∧(∀k,obl gs k→¬F k∧k<w5.heap.size∧w.heap.size+2≤k)):=⟨W6,hrs6,fun k hk=>⟨fun e=>by have:=hgs k hk;have:=H3.out.rw.lt k e;omega,(hgs k hk).2,by have:=(hgs k hk).1;have:=H3.out.lt;omega⟩⟩;clear hos hbs h5 hc5 W5 hgs hrs W6 hrs6 hC2 hc2 s6 s7 lps;obtain ⟨DW,fr⟩:=C2;simp only at hch HC2;obtain ⟨fl,hfl⟩:∃fl,fr.length=fl:=⟨_,rfl⟩;rw [hfl] at hch;have HFL:Hid (fr.length=fl):=hfl;clear hfl;obtain ⟨w6,hw6⟩:∃w6,w5.setCell ⟨p,13,none⟩ (.slice gs sl cs)=w6:=⟨_,rfl⟩;rw [hw6] at hch H6 s7';clear H3 HFB;go_wp2_with fail
    refine hch.mono ?_;clear hch;rintro e w7 ⟨gf,cf,rfl,hof,hbf,h7,hc7⟩
    have W7:WkS w w7 p N F a cap L (qk gs sl cs (.slice none 0 0)) DW S:=by
     have:=H6.out.1.step h7 (Step.of hc7) HC2.out.2;rw [qk0] at this;exact this
    have hw65:w6.heap.size=w5.heap.size:=by rw [←hw6,size_setCell]
    have hrs7:Row w7 gs cs st:=H6.out.2.1.keepO (fun g hg=>hc7.block g (by rw [hw65];exact (H6.out.2.2 g hg).2.1) (H6.out.2.2 g hg).1);have H7:Hid (WkS w w7 p N F a cap L (qk gs sl cs (.slice none 0 0)) DW S∧Row w7 gs cs st∧Row w7 gf cf fr∧(∀k,obl gs k→¬F k∧k<w7.heap.size∧w.heap.size+2≤k)):=⟨W7,hrs7,(hof.row' hbf).2,fun k hk=>⟨(H6.out.2.2 k hk).1,by have:=(H6.out.2.2 k hk).2.1;have:=hc7.size;omega,(H6.out.2.2 k hk).2.2⟩⟩;obtain ⟨n1,n2,n3⟩:=nothing_end (cs:=rp0C) W7.bel W7.r;have HNE:Hid ((w7.setRow (w.heap.size+1) rp0C).heap[w.heap.size+1]?=some (.cells rp0C 41 (0,0))∧Below w.heap.size w (w7.setRow (w.heap.size+1) rp0C)):=⟨n2,n3⟩;have c16:=h7.c16.1
    have HNO:Hid (waB L S=false→E=8∧R=rp0):=fun hf=>by
     obtain ⟨hE,hR⟩:=wa_no HL.out.2.1 (by rw [HPG.out];exact HL.out.2.2.2) hf;exact ⟨HER.out.1.symm.trans hE,HER.out.2.symm.trans hR⟩
    have HWA:Hid (waB L S=(!DW.bad&&(decide (fr.length=(N+7)/8)&&(List.range (fr.length*8)).all (frB fr DW.kd N)))):=waB_is HC2.out.1 HPG.out;have hcf:=(hof.row' hbf).2.2.1;have hcf2:=(hof.row' hbf).2.2.2.1;rw [HFL.out] at hcf;unfold maxLen at hcf2;obtain ⟨M,hM⟩:∃M,(N+7)/8=M:=⟨_,rfl⟩;have hM1:((N:Int)+7)/8=(M:Int):=by omega
    have hM5:M≤513:=by omega
    rw [hM] at HWA;clear hof hbf h7 hc7 W7 hrs7 n2 n3 hw6 H6 s7' c13 z13 hw65 hM;cases hbad:DW.bad with
    |true=>
     rw [hbad] at c16 HWA;have HX:Hid (E=8∧R=rp0):=HNO.out (by rw [HWA.out];rfl);clear hbad;go_wp2;refine bodyPost_ret (results_rowtmp rfl _ _ (w.heap.size+1) _ rp0C (0,0) _ rfl HNE.out.1 Tryz.underlying41 rfl (by kernel_rfl)) rfl ?_;rw [HX.out.1,HX.out.2];exact ⟨⟨_,rfl,rep0 _ _⟩,HNE.out.2⟩
    |false=>
     rw [hbad] at c16 HWA;clear hbad;by_cases hln:fl=M
     ·subst hln;have HWL:Hid (waB L S=(List.range (fr.length*8)).all (frB fr DW.kd N)):=by show _=_;rw [HWA.out,HFL.out];simp
      clear HWA;have HWA:Hid (waB L S=(List.range (fr.length*8)).all (frB fr DW.kd N)):=HWL.out;obtain ⟨kb0,ck,aP,aT,cP,cT,hR⟩:=H7.out.1.rw;have k1:=hR.at.2.1;rw [HC2.out.2] at k1;have hck1:=hR.kd.cur;obtain ⟨-,-,hck1,hck2,-⟩:=hck1;rw [HC2.out.2] at hck1;unfold maxLen at hck2;have HRR:Hid (RW w7 p F a cap L kb0 ck aP aT cP cT (qk gs sl cs (.slice none 0 0)) DW):=hR;clear HWL;go_wp2_with fail
      go_loopg [10] (fl*8) (fun g i wr=>∃k:Nat,k≤fl*8∧g=fl*8-k∧i=.int .i64 k∧w7=wr∧Hid (∀j,j<k→frB fr DW.kd N j=true))
      case atStart=>exact ⟨0,Nat.zero_le _,rfl,rfl,rfl,fun j hj=>by omega⟩
      case round=>
       obtain ⟨k,hk,hgk,rfl,rfl,HI⟩:=hrel;have HGK:Hid (gk=fl*8-k):=hgk;clear hgk hM1;by_cases hlt:k<fl*8
       ·obtain ⟨b,off,rfl⟩:=H7.out.2.2.1.some' (by rw [HFL.out];omega);have hrow:=H7.out.2.2.1.cells (k/8) (by rw [HFL.out];omega);have hbz:=H7.out.2.2.1.1.at (k/8);have hand:=bit_and hbz.1 hbz.2 (k%8);have hkj:((k:Int)/8)=((k/8:Nat):Int):=by omega
        have hkr:((k:Int)%8)=((k%8:Nat):Int):=by omega
        have hr8:k%8<8:=by omega
        have hj:k/8<fl:=by omega
        have hbit:bitR fr k=(fr.getD (k/8) 0/2^(k%8)%2==1):=rfl;obtain ⟨z,hz'⟩:∃z,fr.getD (k/8) 0=z:=⟨_,rfl⟩;rw [hz'] at hrow hbz hand hbit;obtain ⟨j,hj'⟩:∃j,k/8=j:=⟨_,rfl⟩;obtain ⟨r,hr'⟩:∃r,k%8=r:=⟨_,rfl⟩;rw [hj'] at hrow hkj hj;rw [hr'] at hand hkr hr8 hbit;clear hz' hj' hr';have hk4:k<4200:=by omega
        have hm01:z/2^r%2=0∨z/2^r%2=1:=by omega
        rcases hm01 with hm|hm
        ·rw [hm] at hand hbit;have hbR:bitR fr k=false:=hbit;clear hm hbit hbz;by_cases h2:k<2
         ·have HX:Hid (E=8∧R=rp0):=HNO.out (HWA.out.trans (all_no (f:=frB fr DW.kd N) (n:=fr.length*8) (k:=k) (by rw [HFL.out];exact hlt) (by unfold frB;rw [hbR];rw [decide_eq_true h2];rfl)));clear HI;go_wp2;refine bodyPost_ret (results_rowtmp rfl _ _ (w.heap.size+1) _ rp0C (0,0) _ rfl HNE.out.1 Tryz.underlying41 rfl (by kernel_rfl)) rfl ?_;rw [HX.out.1,HX.out.2];exact ⟨⟨_,rfl,rep0 _ _⟩,HNE.out.2⟩
         ·have h2i:decide ((k:Int)<2)=false:=by rw [decide_eq_false_iff_not];omega
          by_cases hN:k<N
          ·obtain ⟨-,b1,-,-⟩:=own_at' hR.kd k (by rw [HC2.out.2];exact hN);have hyb:=hR.kb.at k;obtain ⟨y,hy⟩:∃y,DW.kd.getD k 0=y:=⟨_,rfl⟩;rw [hy] at b1 hyb;by_cases y0:y=0
           ·subst y0;have hfr:frB fr DW.kd N k=true:=by unfold frB;rw [hbR];rw [decide_eq_false h2,hy];simp
            have HI2:Hid (∀j,j<k+1→frB fr DW.kd N j=true):=fun j hj=>by rcases Nat.lt_succ_iff_lt_or_eq.1 hj with e|rfl;exact HI.out j e;exact hfr
            clear HI hfr hbR;go_wp2;go_roundg (fl*8-(k+1))
            case rel=>exact ⟨k+1,by omega,rfl,by go_num,rfl,HI2⟩
            case measure=>have:=HGK.out;omega
           ·have y1:(y==0)=false:=by simpa using y0
            have y2:(y !=0)=true:=by unfold bne;rw [y1];rfl
            have HX:Hid (E=8∧R=rp0):=HNO.out (HWA.out.trans (all_no (f:=frB fr DW.kd N) (n:=fr.length*8) (k:=k) (by rw [HFL.out];exact hlt) (by unfold frB;rw [hbR];rw [decide_eq_false h2,decide_eq_true hN,hy,y1];rfl)));clear HI;go_wp2;refine bodyPost_ret (results_rowtmp rfl _ _ (w.heap.size+1) _ rp0C (0,0) _ rfl HNE.out.1 Tryz.underlying41 rfl (by kernel_rfl)) rfl ?_;rw [HX.out.1,HX.out.2];exact ⟨⟨_,rfl,rep0 _ _⟩,HNE.out.2⟩
          ·have hfr:frB fr DW.kd N k=true:=by unfold frB;rw [hbR];rw [decide_eq_false h2,decide_eq_false hN];rfl
           have HI2:Hid (∀j,j<k+1→frB fr DW.kd N j=true):=fun j hj=>by rcases Nat.lt_succ_iff_lt_or_eq.1 hj with e|rfl;exact HI.out j e;exact hfr
           clear HI hfr hbR;go_wp2;go_roundg (fl*8-(k+1))
           case rel=>exact ⟨k+1,by omega,rfl,by go_num,rfl,HI2⟩
           case measure=>have:=HGK.out;omega
        ·rw [hm] at hand hbit;have hbR:bitR fr k=true:=hbit;clear hm hbit hbz;by_cases h2:k<2
         ·have hfr:frB fr DW.kd N k=true:=by unfold frB;rw [hbR];rw [decide_eq_true h2];rfl
          have HI2:Hid (∀j,j<k+1→frB fr DW.kd N j=true):=fun j hj=>by rcases Nat.lt_succ_iff_lt_or_eq.1 hj with e|rfl;exact HI.out j e;exact hfr
          clear HI hfr hbR;go_wp2;go_roundg (fl*8-(k+1))
          case rel=>exact ⟨k+1,by omega,rfl,by go_num,rfl,HI2⟩
          case measure=>have:=HGK.out;omega
         ·have h2i:decide ((k:Int)<2)=false:=by rw [decide_eq_false_iff_not];omega
          by_cases hN:k<N
          ·obtain ⟨-,b1,-,-⟩:=own_at' hR.kd k (by rw [HC2.out.2];exact hN);have hyb:=hR.kb.at k;obtain ⟨y,hy⟩:∃y,DW.kd.getD k 0=y:=⟨_,rfl⟩;rw [hy] at b1 hyb;by_cases y0:y=0
           ·subst y0;have HX:Hid (E=8∧R=rp0):=HNO.out (HWA.out.trans (all_no (f:=frB fr DW.kd N) (n:=fr.length*8) (k:=k) (by rw [HFL.out];exact hlt) (by unfold frB;rw [hbR];rw [decide_eq_false h2,hy];simp)));clear HI;go_wp2;refine bodyPost_ret (results_rowtmp rfl _ _ (w.heap.size+1) _ rp0C (0,0) _ rfl HNE.out.1 Tryz.underlying41 rfl (by kernel_rfl)) rfl ?_;rw [HX.out.1,HX.out.2];exact ⟨⟨_,rfl,rep0 _ _⟩,HNE.out.2⟩
           ·have y1:(y==0)=false:=by simpa using y0
            have y2:(y !=0)=true:=by unfold bne;rw [y1];rfl
            have hfr:frB fr DW.kd N k=true:=by unfold frB;rw [hbR];rw [decide_eq_false h2,decide_eq_true hN,hy,y1];rfl
            have HI2:Hid (∀j,j<k+1→frB fr DW.kd N j=true):=fun j hj=>by rcases Nat.lt_succ_iff_lt_or_eq.1 hj with e|rfl;exact HI.out j e;exact hfr
            clear HI hfr hbR;go_wp2;go_roundg (fl*8-(k+1))
            case rel=>exact ⟨k+1,by omega,rfl,by go_num,rfl,HI2⟩
            case measure=>have:=HGK.out;omega
          ·have HX:Hid (E=8∧R=rp0):=HNO.out (HWA.out.trans (all_no (f:=frB fr DW.kd N) (n:=fr.length*8) (k:=k) (by rw [HFL.out];exact hlt) (by unfold frB;rw [hbR];rw [decide_eq_false h2,decide_eq_false hN];rfl)));clear HI;go_wp2;refine bodyPost_ret (results_rowtmp rfl _ _ (w.heap.size+1) _ rp0C (0,0) _ rfl HNE.out.1 Tryz.underlying41 rfl (by kernel_rfl)) rfl ?_;rw [HX.out.1,HX.out.2];exact ⟨⟨_,rfl,rep0 _ _⟩,HNE.out.2⟩
       ·have HX:Hid (waB L S=true):=HWA.out.trans (all_yes (f:=frB fr DW.kd N) (n:=fr.length*8) (fun j hj=>HI.out j (by rw [HFL.out] at hj;omega)))
        have HWE:Hid (E=0∧R=⟨S,-1,DW.pc,DW.tx,st,rsg DW.kd N,S.h⟩∧∀x∈DW.pc,wfC x):=by
         obtain ⟨hE,hR2⟩:=wa_yes HL.out.2.1 (by rw [HPG.out];exact HL.out.2.2.2) HX.out;have hpc:=wk_pcs HL.out.2.2.1.1 (by rw [HPG.out];exact h4) HL.out.2.1 hE;rw [hR2,HC2.out.1] at hpc;rw [HC2.out.1,HC1.out.1,HPG.out] at hR2;exact ⟨HER.out.1.symm.trans hE,HER.out.2.symm.trans hR2,hpc⟩
        have HFW:Hid (∀k,F k→k<w7.heap.size):=hR.lt;have H72:Hid (w.heap.size+2≤w7.heap.size):=by show _≤_;have:=H7.out.1.lt;omega
        clear HI HX hR k1 hck1 hck2 HRR HNO HWA HNE n1 c16 HGK;go_wp2_with fail
        go_loopg [12] N (fun g i wr=>∃(k:Nat) (ag:Option Addr) (cg:Nat),k≤N∧g=N-k∧i=.int .i64 k∧Hid (PgI w w7 wr p N F a cap L gs sl cs DW S k (.slice ag (rsg DW.kd k).length cg)))
        case atStart=>exact ⟨0,none,0,Nat.zero_le _,rfl,rfl,⟨H7.out.1,⟨rfl,.inl ⟨rfl,rfl⟩⟩,Ch.refl _ _ _⟩⟩
        case round=>
         obtain ⟨m,ag,cg,hm,hgk,rfl,HI⟩:=hrel;have HGK:Hid (gk=N-m):=hgk;clear hgk;obtain ⟨kb,ck,aP,aT,cP,cT,hR⟩:=HI.out.wk.rw;have k1:=hR.at.2.1;rw [HC2.out.2] at k1;have hck:=hR.kd.cur;obtain ⟨-,-,hck1,hck2,-⟩:=hck;rw [HC2.out.2] at hck1;unfold maxLen at hck2;have c14:=HI.out.wk.rw.c13.2.1;have z14:=HI.out.wk.rw.frz 14;rw [show qk gs sl cs (.slice ag (rsg DW.kd m).length cg) 10=.slice ag (rsg DW.kd m).length cg from rfl] at c14;obtain ⟨rl,hrl⟩:∃rl,(rsg DW.kd m).length=rl:=⟨_,rfl⟩;have hrm:rl≤m:=by rw [←hrl];exact rsg_len _ _
         have HRL:Hid ((rsg DW.kd m).length=rl):=hrl;rw [hrl] at c14 HI;clear hrl;by_cases hlm:m<N
         ·obtain ⟨-,b1,-,-⟩:=own_at' hR.kd m (by rw [HC2.out.2];exact hlm);have hyb:=hR.kb.at m;obtain ⟨y,hy⟩:∃y,DW.kd.getD m 0=y:=⟨_,rfl⟩;rw [hy] at b1 hyb;have HY:Hid (DW.kd.getD m 0=y):=hy;have lpr:p<wr.heap.size:=hR.lt p hR.fp;clear hy hR;by_cases y0:y=0
          ·subst y0
           have HI2:Hid (PgI w w7 wr p N F a cap L gs sl cs DW S (m+1) (.slice ag (rsg DW.kd (m+1)).length cg)):=by
            show PgI _ _ _ _ _ _ _ _ _ _ _ _ _ _ _ _;rw [rsg_no HY.out,HRL.out];exact {HI.out with own:=by rw [rsg_no HY.out];exact HI.out.own}
           clear HI;go_wp2;go_roundg (N-(m+1))
           case rel=>exact ⟨m+1,ag,cg,by omega,rfl,by go_num,HI2⟩
           case measure=>have:=HGK.out;omega
          ·have y1:(y==0)=false:=by simpa using y0
           have y2:(y !=0)=true:=by unfold bne;rw [y1];rfl
           have HYN:Hid (¬DW.kd.getD m 0=0):=by show ¬_;rw [HY.out];exact y0
           have hsz:=HI.out.ch.size;clear y0 y1;go_wp2_with (at_builtin;refine appI wr rfl _ _ rfl w7.heap.size (.slice ag rl cg) (rsg DW.kd m) (m:Int) rfl HI.out.own rfl (by rw [HRL.out];omega) hsz ?_;intro v4 w4 ho4 hb4;obtain ⟨ga,ca,hv4,-⟩:=ho4.row2;rw [List.length_append,HRL.out] at hv4;subst hv4;have c14':=(hb4.cell (p:=⟨p,14,none⟩) (HFW.out p HI.out.wk.rw.fp)).trans c14;have z14':=(hb4.frozen (p:=⟨p,14,none⟩) (HFW.out p HI.out.wk.rw.fp)).trans z14;have H4:Hid (PgI w w7 (w4.setCell ⟨p,14,none⟩ (.slice ga (rl+[(m:Int)].length) ca)) p N F a cap L gs sl cs DW S (m+1) (.slice ga (rl+[(m:Int)].length) ca)):=HI.out.next HFW.out H72.out (fun k hk=>by have:=HI.out.wk.ilo k hk;have:=H72.out;omega) HYN.out ho4 hb4;clear ho4 hb4)
           go_roundg (N-(m+1))
           case rel=>exact ⟨m+1,ga,ca,by omega,rfl,by go_num,by show PgI _ _ _ _ _ _ _ _ _ _ _ _ _ _ _ _;rw [rsg_yes HYN.out,List.length_append,HRL.out];exact H4.out⟩
           case measure=>have:=HGK.out;omega
         ·have hmN:m=N:=by omega
          subst hmN;obtain ⟨w9,aP',cP',aT',cT',f1,⟨f2,f3⟩,f4,f5,f6,f7⟩:=walk_end HI.out H7.out.2.1 H7.out.2.2.2 HSL.out HWE.out.2.2 H72.out HRL.out HFW.out;obtain ⟨g1,g2,g3,g4,g5⟩:=f7 _ rfl;have HG:Hid _:=And.intro g3 (And.intro g4 g5);obtain ⟨s1,s2,s3,s4,s5,s6,s7⟩:=HI.out.wk.at;have s0:wr.cell? ⟨w.heap.size,0,none⟩=some (.int .i64 S.g):=by rw [cell_of_row wr _ _ _ _ (0,0) HI.out.wk.s];rfl
          have f4a:=f4 10;have f4b:=f4 15;unfold spC at f1;unfold rpC at g1 g2;clear f4 f7 g3 g4 g5 hR k1 hck1 hck2 c14 z14 HI;go_wp2;refine bodyPost_ret (results_rowtmp rfl _ _ (w.heap.size+1) _ _ (0,0) _ rfl HG.out.1 Tryz.underlying41 rfl (by kernel_rfl)) rfl ?_;rw [HWE.out.1,HWE.out.2.1];exact ⟨⟨_,rfl,HG.out.2.2⟩,HG.out.2.1⟩
     ·have hl1:((fl:Int)==(M:Int))=false:=by rw [beq_eq_false_iff_ne];omega
      have hl2:((fl:Int) !=(M:Int))=true:=by unfold bne;rw [hl1];rfl
      have HX:Hid (E=8∧R=rp0):=HNO.out (by rw [HWA.out,HFL.out,decide_eq_false hln];rfl);clear hln hl1;go_wp2;refine bodyPost_ret (results_rowtmp rfl _ _ (w.heap.size+1) _ rp0C (0,0) _ rfl HNE.out.1 Tryz.underlying41 rfl (by kernel_rfl)) rfl ?_;rw [HX.out.1,HX.out.2];exact ⟨⟨_,rfl,rep0 _ _⟩,HNE.out.2⟩
end Go.Proofs.YtjllhcifmfhkmaaGreat.Oct
namespace Go.Proofs.YtjllhcifmfhkmaaGreat.Oct
open Go.RowKit
theorem rwalk_any (a:Option Addr) (cap N:Nat) (L:List Int) (w:World) (hr:Row w a cap L) (hil:L.length=256*N) (hN8:8≤N) (h4:N≤4096) (S:Sp):
  Calls Tryz.prog 20 #[.slice a L.length cap,spV S] w fun e w'=>(∃v,e=.returned (.tuple #[v,.int .i64 (waE L S)])∧RepIs w.heap.size w' v (waR L S))∧Below w.heap.size w w':=by
 have hpg:pgN L=N:=by unfold pgN;rw [hil];omega
 cases hS:okS S with
 |false=>
  have e:waE L S=1:=by unfold waE;rw [hS];rfl
  have e2:waR L S=rp0:=by unfold waR;rw [if_neg (by rw [e];decide)]
  rw [e,e2];refine (rwalk_arg a L.length cap w S hS).mono ?_;rintro e w' ⟨rfl,hb⟩;exact ⟨⟨_,rfl,rep0 _ _⟩,hb⟩
 |true=>
  by_cases hp:S.p=(N:Int)
  ·exact rwalk_go a cap N L w hr hil hN8 h4 S hS hp _ rfl _ rfl
  ·have e:waE L S=8:=by unfold waE;rw [if_pos hS,hpg,if_neg hp]
   have e2:waR L S=rp0:=by unfold waR;rw [if_neg (by rw [e];decide)]
   rw [e,e2];refine (rwalk_pages a L.length cap N (Nat.le_trans hr.2.1 hr.2.2.1) (by omega) w S hS hp).mono ?_;rintro e w' ⟨rfl,hb⟩;exact ⟨⟨_,rfl,rep0 _ _⟩,hb⟩
theorem LdR_run {w:World} {g:Nat} {cs:Array Value} (hg:w.heap[g]?=some (.cells cs 41 (0,0))) (hc:cs.size=14):(LdR (.pointer (some ⟨g,0,none⟩))).run Tryz.prog w=.ok (.agg cs) w:=by
 unfold LdR;simp only [Instr.loadAt,Instr.sureAddr,Sem.run_bind,Sem.run_pure,Result.andThen_ok,run_loadVar_row (P:=Tryz.prog) w g 41 41 cs (0,0) _ hg Tryz.underlying41 rfl (by rw [hc];kernel_rfl)]
attribute [local go_sem ↓] StR_eq LdR_eq StS_eq
end Go.Proofs.YtjllhcifmfhkmaaGreat.Oct
namespace Go.Proofs.YtjllhcifmfhkmaaGreat.Oct
open Go.RowKit
def chaK (P:Nat→List Int) (t:List Int) (a i:Nat):Nat→List Int:=fun j=>if a≤j∧j<a+i then sealL (cpg t (ups a (ned t.length)) (j-a)) else P j
theorem chaK_zero (P:Nat→List Int) (t:List Int) (a:Nat):chaK P t a 0=P:=by
 funext j
 unfold chaK;rw [if_neg (by omega)]
theorem chaK_succ (P:Nat→List Int) (t:List Int) (a i:Nat):putP (chaK P t a i) (a+i) (sealL (cpg t (ups a (ned t.length)) i))=chaK P t a (i+1):=by
 funext j
 unfold putP chaK;by_cases h:j=a+i
 ·rw [if_pos h,if_pos (by omega),show j-a=i from by omega]
 ·rw [if_neg h];by_cases h2:a≤j∧j<a+i
  ·rw [if_pos h2,if_pos (by omega)]
  ·rw [if_neg h2,if_neg (by omega)]
theorem cha_chaK (P:Nat→List Int) (t:List Int) (a:Nat):Cha (chaK P t a (ned t.length)) t a:=fun i hi=>by
 unfold chaK;rw [if_pos (by omega),show a+i-a=i from by omega]
theorem Row.keep1 {w w':World} {g off cap:Nat} {zs:List Int} (h:Row w (some ⟨g,off,none⟩) cap zs) (k:w'.heap[g]?=w.heap[g]?):Row w' (some ⟨g,off,none⟩) cap zs:=by
 obtain ⟨h1,h2,h3,h4⟩:=h;refine ⟨h1,h2,h3,?_⟩;rcases h4 with h4|⟨b,o,e,hi⟩
 ·exact .inl h4
 ·cases e;exact .inr ⟨g,off,rfl,fun i hl=>(World.cell?_of_block (w:=w) (a:=⟨g,off+i,none⟩) k).trans (hi i hl)⟩
theorem Row.drew' {w:World} {a:Option Addr} {cap:Nat} {zs:List Int} (h:Row w a cap zs):Row w.drew a cap zs:=h
def ImM (base:Nat) (w:World) (g n cap N:Nat) (P:Nat→List Int):Prop:=∃L,Own base w (.slice (some ⟨g,0,none⟩) n cap) L∧Im N L P
theorem ImM.kept {base g n cap N:Nat} {w w':World} {P:Nat→List Int} (h:ImM base w g n cap N P) (hk:w'.heap[g]?=w.heap[g]?):ImM base w' g n cap N P:=by
 obtain ⟨L,h1,h2⟩:=h;exact ⟨L,h1.kept hk,h2⟩
theorem ImM.lt {base g n cap N:Nat} {w:World} {P:Nat→List Int} (h:ImM base w g n cap N P):base≤g∧g<w.heap.size∧n=N*256:=by
 obtain ⟨L,h1,h2⟩:=h;exact ⟨h1.lt2.1,h1.lt2.2,by rw [h1.cap'.1,h2.len]⟩
theorem ImM.lay {base g n cap N k:Nat} {w:World} {P:Nat→List Int} {Z:List Int} {a:Option Addr} {cz:Nat} (h:ImM base w g n cap N P) (hN:N≤4096) (hk:k<N) (hz:Row w a cz Z) (h256:Z.length=256) (hng:∀x,a=some x→x.block≠g):
  Calls Tryz.prog 30 #[.slice (some ⟨g,0,none⟩) n cap,.int .i64 (k:Nat),.slice a 256 cz] w fun e w'=>e=.returned (.tuple #[])∧ImM base w' g n cap N (putP P k Z)∧Ch w.heap.size (fun x=>x=g) w w':=by
 have hn:=h.lt.2.2;obtain ⟨L,h1,h2⟩:=h;refine (lay_v h1 hz h256 (k:=k) (by omega) (by omega) hng).mono ?_;rintro e w' ⟨rfl,h3,h4⟩;exact ⟨rfl,⟨_,h3,h2.lay hk h256 hz.1⟩,h4⟩
set_option maxRecDepth 4000 in
theorem blob_v {base g n cap N b m c:Nat} {w:World} {P:Nat→List Int} {a:Option Addr} {t:List Int} (h:ImM base w g n cap N P) (hN:N≤4096) (ht:Row w a c t) (hnil:a=none→c=0) (hl:t.length=m) (h2:2≤b) (hb:b+ned m≤N):
  Calls Tryz.prog 35 #[.slice (some ⟨g,0,none⟩) n cap,.slice a m c,.int .i64 (b:Nat)] w fun e w'=>e=.returned (.tuple #[.int .i64 (if m=0 then 0 else (b:Nat)),.int .i64 ((b+ned m:Nat):Int)])∧ImM base w' g n cap N (chaK P t b (ned m))∧Ch w.heap.size (fun x=>x=g) w w':=by
 have hm4:m≤1000000:=by unfold ned at hb;omega
 by_cases h0:m=0
 ·have HE:Hid (ImM base w g n cap N (chaK P t b (ned m))):=by
   rw [h0,show ned 0=0 from rfl,chaK_zero];exact h
  subst h0;clear h ht hl;go_enter Tryz.func35,Tryz.ntmps35
  go_wp2;go_ret2
  exact ⟨by simp [ned],HE.out,Ch.refl _ _ _⟩
 ·obtain ⟨gl,hgl,hnn'⟩:=h.lt;have HNN:Hid (n=N*256):=hnn';have hn4:n≤1048576:=by omega
  clear hnn';have HT:Hid (Row w a c t∧t.length=m∧ImM base w g n cap N P):=⟨ht,hl,h⟩;have hnd:= @rNeed_any (m:Int);rw [nedI_nat] at hnd;obtain ⟨q,hq⟩:∃q,ned m=q:=⟨_,rfl⟩;have HQ:Hid (ned m=q∧0<q∧q≤4096):=⟨hq,by rw [←hq];unfold ned;omega,by omega⟩;rw [hq] at hnd hb;have hq4:q≤4096:=HQ.out.2.2;clear ht hl h hq;have h0':((m:Int)==0)=false:=by rw [beq_eq_false_iff_ne];omega
  have HL0:Hid (OwnI w.heap.size w (.slice none 0 0) (ups b 0)∧Below w.heap.size w w):=⟨⟨rfl,.inl ⟨rfl,rfl⟩⟩,Below.refl _ _⟩;go_enter Tryz.func35,Tryz.ntmps35
  go_wp2_with fail
  go_loopg [8,9] q (fun gh v i wr=>∃j:Nat,j≤q∧gh=q-j∧i=.int .i64 j∧Hid (OwnI w.heap.size wr v (ups b j)∧Below w.heap.size w wr))
  case atStart=>exact ⟨0,Nat.zero_le _,rfl,rfl,HL0.out⟩
  case round=>
   clear HL0;obtain ⟨j,hj,hgk,rfl,HI⟩:=hrel;have HGK:Hid (gk=q-j):=hgk;clear hgk;by_cases hlt:j<q
   ·have hsz:=HI.out.2.size;have hln:=ups_len b j;go_wp2_with fail
    refine (hnd wr (by omega) (by omega)).mono ?_;rintro e w' ⟨rfl,rfl⟩;go_wp2_with (at_builtin;refine appI wr rfl _ _ rfl w.heap.size u8 (ups b j) ((b:Int)+(j:Int)) rfl HI.out.1 rfl (by omega) hsz ?_;intro v4 w4 ho4 hb4;have H4:Hid (OwnI w.heap.size w4 v4 (ups b (j+1))∧Below w.heap.size w w4):=(by show _∧_;rw [ups_succ,Int.natCast_add];exact ⟨ho4,HI.out.2.trans hb4⟩);clear ho4 hb4)
    go_roundg (q-(j+1))
    case rel=>exact ⟨j+1,by omega,rfl,by go_num,H4.out⟩
    case measure=>have:=HGK.out;omega
   ·obtain rfl:j=q:=by omega
    obtain ⟨al,cl,hv,hrl⟩:=HI.out.1.row;rw [ups_len] at hv;subst hv;go_wp2_with fail
    refine (hnd wr (by omega) (by omega)).mono ?_;rintro e w' ⟨rfl,rfl⟩;have hct:=rCut_any a c t al cl (ups b j) wr (HT.out.1.below HI.out.2) hnil hrl (by rw [HT.out.2.1];omega);rw [ups_len,HT.out.2.1] at hct;go_wp2_with fail
    refine hct.mono ?_;clear hct;rintro e w3 ⟨v3,rfl,hpg,hb3⟩;have hce:ctE t (ups b j)=0:=ctE_ok (by rw [ups_len,HT.out.2.1,HQ.out.1]) (ups_ok h2 (by omega)) (by rw [HT.out.2.1];omega);have hcz:ctZ t (ups b j)=ctL t (ups b j):=by unfold ctZ;rw [if_pos hce]
    rw [hce];rw [hcz] at hpg;have hcl:(ctL t (ups b j)).length=j:=by rw [ctL_len,ups_len]
    have hat:=fun i (hi:i<j)=>hpg.at i (by rw [hcl];exact hi)
    have hgt:∀i,i<j→(ctL t (ups b j)).getD i []=sealL (cpg t (ups b (ned t.length)) i):=fun i hi=>by
     rw [HT.out.2.1,HQ.out.1];unfold ctL;rw [ups_len];simp [List.getD_eq_getElem?_getD,hi]
    obtain ⟨q3,c3,-,-,rfl,hc3,hm3,-⟩:=hat 0 HQ.out.2.1
    have HP:Hid ((∀i,i<j→∃gi ci,w3.cell? ⟨q3,i,none⟩=some (.slice (some ⟨gi,0,none⟩) 256 ci)∧Row w3 (some ⟨gi,0,none⟩) ci (sealL (cpg t (ups b (ned t.length)) i))∧(¬gi=g∧gi<w3.heap.size))∧q3<w3.heap.size∧¬q3=g):=by
     have hq3:=World.ownsRow.lt hpg.choose_spec.1 q3 rfl;have:=HI.out.2.size;refine ⟨fun i hi=>?_,hq3.2,by omega⟩;obtain ⟨q',c',gi,ci,e,-,-,h1,h2',-⟩:=hat i hi;cases e;rw [hgt i hi,cpg_256] at h1 h2';have hlt':=h2'.lt2;exact ⟨gi,ci,h1,(h2'.row' (seal_bys (cpg_bys HT.out.1.1 i))).2,by omega,hlt'.2⟩
    rw [hcl] at hc3 ⊢
    obtain ⟨bl,ol,rfl,hcl2⟩:∃bl ol,al=some ⟨bl,ol,none⟩∧∀i,i<j→wr.cell? ⟨bl,ol+i,none⟩=some (.int .i64 ((b+i:Nat):Int)):=by
     rcases hrl.2.2 with h|⟨bl,ol,e,h⟩
     ·have:=congrArg List.length h;rw [ups_len] at this;have:=HQ.out.2.1;simp at*;omega
     ·refine ⟨bl,ol,e,fun i hi=>?_⟩;rw [h i (by rw [ups_len];exact hi),ups_at hi]
    have hbl:=World.ownsRow.lt HI.out.1 bl rfl;have hcl1:=hrl.1;have hcl3:=hrl.2.1;rw [ups_len] at hcl1;unfold maxLen at hcl3 hm3;have HR:Hid (∀i,i<j→w3.cell? ⟨bl,ol+i,none⟩=some (.int .i64 ((b+i:Nat):Int))):=fun i hi=>(hb3.cell (p:=⟨bl,ol+i,none⟩) hbl.2).trans (hcl2 i hi)
    have hblg:¬bl=g:=by omega
    have HB3:Hid (Below w.heap.size w w3∧bl<w3.heap.size):=⟨HI.out.2.trans (hb3.mono HI.out.2.size),by have:=hb3.size;omega⟩;have HM0:Hid (ImM base w3 g n cap N (chaK P t b 0)∧Ch w3.heap.size (fun x=>x=g) w3 w3):=⟨by rw [chaK_zero];exact HT.out.2.2.kept (HB3.out.1.block g hgl),Ch.refl _ _ _⟩;have hq3g:=HP.out.2.2;clear hat hpg hb3 hbl hcl2 hrl HI hnd hce hcz hcl hgt hj hlt HGK;go_wp2_with fail
    go_loopg [12] j (fun gh i wx=>∃k:Nat,k≤j∧gh=j-k∧i=.int .i64 k∧Hid (ImM base wx g n cap N (chaK P t b k)∧Ch w3.heap.size (fun x=>x=g) w3 wx))
    case atStart=>exact ⟨0,Nat.zero_le _,rfl,rfl,HM0.out⟩
    case round=>
     clear HM0;obtain ⟨k,hk,hgk,rfl,HI⟩:=hrel;have HGK:Hid (gk=j-k):=hgk;clear hgk;by_cases hlt:k<j
     ·have ck:=(HI.out.2.cell (p:=⟨bl,ol+k,none⟩) HB3.out.2 hblg).trans (HR.out k hlt);obtain ⟨gi,ci,hci,hri,hgi,hgl3⟩:=HP.out.1 k hlt;have cp:=(HI.out.2.cell (p:=⟨q3,k,none⟩) HP.out.2.1 hq3g).trans hci;have hly:=(HI.out.1.kept (w':=wr.drew) rfl).lay hN (k:=b+k) (by omega) ((hri.keep1 (HI.out.2.block gi hgl3 hgi)).drew') (cpg_256 ..) (fun x e=>by cases e;exact hgi);have HS:Hid (Ch w3.heap.size (fun x=>x=g) w3 wr.drew):=HI.out.2.drew;have hbk:b+k<4096:=by omega
      clear HI hci hri;go_wp2_with fail
      go_region_held3 (fun w'=>w'.cell? ⟨bl,ol+k,none⟩=some (.int .i64 ((b+k:Nat):Int))∧w'.cell? ⟨q3,k,none⟩=some (.slice (some ⟨gi,0,none⟩) 256 ci)) (first|go_keep|exact ⟨by assumption,by assumption⟩) (first|(go_at_call 30;refine hly.mono ?_;rintro e w5 ⟨rfl,hm5,hc5⟩;have k1:=(hc5.cell (p:=⟨bl,ol+k,none⟩) (Nat.lt_of_lt_of_le HB3.out.2 HS.out.size) hblg).trans ck;have k2:=(hc5.cell (p:=⟨q3,k,none⟩) (Nat.lt_of_lt_of_le HP.out.2.1 HS.out.size) hq3g).trans cp;have H5:Hid (ImM base w5 g n cap N (chaK P t b (k+1))∧Ch w3.heap.size (fun x=>x=g) w3 w5):=(by show _∧_;rw [←chaK_succ];exact ⟨hm5,HS.out.trans (hc5.mono HS.out.size (fun _ _ h=>h))⟩);clear hm5 hc5))
      go_wp2;go_roundg (j-(k+1))
      case rel=>exact ⟨k+1,by omega,rfl,by go_num,H5.out⟩
      case measure=>have:=HGK.out;omega
     ·obtain rfl:k=j:=by omega
      have HE:Hid (ImM base wr g n cap N (chaK P t b (ned m))∧Ch w.heap.size (fun x=>x=g) w wr):=by
       rw [HQ.out.1];exact ⟨HI.out.1,(Ch.of _ HB3.out.1).trans (HI.out.2.mono HB3.out.1.size (fun _ _ h=>h))⟩
      have HQE:Hid (ned m=k):=HQ.out.1;clear HI HP HR;go_wp2;go_ret2
      exact ⟨by simp [HQE.out],HE.out⟩
end Go.Proofs.YtjllhcifmfhkmaaGreat.Oct
