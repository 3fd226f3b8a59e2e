import Derived.Test.YtaijfhadecennabGreatEnv
import Derived.WalkKit
import Derived.ProofKit
import Derived.OpenShut
import Derived.ShutString
import Derived.ChangeOld
import Derived.Below
open Go.Proofs.Tryz
namespace Go.Proofs.YtaijfhadecennabGreat.storeGens
open Go.ChangeShapes Go.WideShapes Go.ChangeAt Go.RowKit
open Go.Proofs.YtaijfhadecennabGreat.Oct Go.Proofs.YtaijfhadecennabGreat.Oct.Sx
set_option linter.unusedVariables false
structure GnI (w wr:World) (B s d k c:Nat) (X:Sx.St) (pl:Nat) (r:Rp) (last:List Int):Prop where
 lv:Lv wr B s d 80 c X pl r [] last []
 v:LvW 80 X pl r []
 cc:c<=20+16100*k
 bel:Below w.heap.size w wr
 bsz:B<=wr.heap.size
 g:X.g=(k:Int)+1
attribute [local go_sem ↓] uT
set_option maxHeartbeats 4000000 in
set_option maxRecDepth 100000 in
theorem walk (a0:Option Addr) (cap0:Nat) (l0:List Bx) (w:World) (w0:IsRws w a0 cap0 l0):
  Calls prog 4 #[.slice a0 l0.length cap0] w fun e w'=>e=.returned (.bool true)/\Below w.heap.size w w':=by
 have haw:=awake13 w;have hsm:=fun (wx:World) (hx:Below w.heap.size w wx)=>small_any a0 cap0 l0 wx (w0.below hx)
 have HW:Hid (IsRws w a0 cap0 l0):=w0;have hc0:=w0.1;have hm0:=w0.2.1;unfold maxLen at hm0;clear w0;obtain ⟨n,hn⟩:∃n,l0.length=n:=⟨_,rfl⟩;have HN:Hid (l0.length=n):=hn;rw [hn] at hsm hc0 ⊢;clear hn;cases hb:smB l0 with
 |false=>
  rw [hb] at hsm;go_enter func4,ntmps4
  go_wp2_with (first
   |(go_at_call 5;refine haw.mono ?_;rintro e w1 ⟨rfl,hb1⟩;have hs1:=hsm w1 hb1;have H1:Hid (Below w.heap.size w w1):=hb1;clear haw hb1 hsm)
   |(go_at_call 16;refine hs1.mono ?_;rintro e w' ⟨rfl,rfl⟩;clear hs1))
  go_ret
  exact ⟨rfl,H1.out⟩
 |true=>
  rw [hb] at hsm;by_cases h15:15<n
  ·go_enter func4,ntmps4
   go_wp2_with (first
    |(go_at_call 5;refine haw.mono ?_;rintro e w1 ⟨rfl,hb1⟩;have hs1:=hsm w1 hb1;have H1:Hid (Below w.heap.size w w1):=hb1;clear haw hb1 hsm)
    |(go_at_call 16;refine hs1.mono ?_;rintro e w' ⟨rfl,rfl⟩;clear hs1))
   go_ret
   exact ⟨rfl,H1.out⟩
  have hn15:n<=15:=by omega
  have hfr:∀(wx:World),Calls prog 17 #[.int .i64 80,.int .i64 8] wx _:=fun wx=>KZ (w:=wx) (n:=80) (N:=8) (by decide) (by decide) (by decide) (by decide)
  have HSM:Hid (smB l0=true):=hb;clear hb h15;go_enter func4,ntmps4
  go_wp2_with (first
   |(go_at_call 5;refine haw.mono ?_;rintro e w1 ⟨rfl,hb1⟩;have hs1:=hsm w1 hb1;have hfr1:=hfr w1;have H1:Hid (Below w.heap.size w w1):=hb1;clear haw hb1 hsm hfr)
   |(go_at_call 16;refine hs1.mono ?_;rintro e w' ⟨rfl,rfl⟩;clear hs1)
   |(go_at_call 17;refine hfr1.mono ?_;rintro e w2 ⟨s,d,X0,r0,rfl,hf,hl,hv,hb2⟩
     have H2:Hid (Lv w2 w1.heap.size s d 80 20 X0 0 r0 [] [] []/\LvW 80 X0 0 r0 []/\Below w1.heap.size w1 w2/\X0.g=1):=⟨hl,hv,hb2,hf.g⟩;clear hfr1 hf hl hv hb2))
  obtain ⟨B,hB⟩:∃B,w1.heap.size=B:=⟨_,rfl⟩;have HB1:Hid (w.heap.size<=B/\True):=⟨by rw [<-hB];exact H1.out.size,trivial⟩
  have HI0:Hid (GnI w w2 B s d 0 20 X0 0 r0 []):=by
   obtain ⟨h1,h2,h3,h4⟩:=H2.out;rw [hB] at h1 h3;have z1:=H1.out.size;have z2:=h3.size;exact ⟨h1,h2,by omega,H1.out.trans (h3.mono (by omega)),by omega,h4⟩
  clear H2 hB;go_loopg [4,5] n (fun gh vp i wr=>∃(k c:Nat) (X:Sx.St) (pl:Nat) (r:Rp) (last:List Int),k<=n/\pl<=1/\gh=n-k/\i=.int .i64 (k:Int)/\vp=.int .i64 (pl:Int)/\Hid (GnI w wr B s d k c X pl r last))
  case atStart=>exact ⟨0,20,_,0,r0,[],jW _,by decide,rfl,rfl,rfl,HI0.out⟩
  case round=>
   clear HI0;obtain ⟨k,c,X,pl,r,last,hk,hp1,hgk,rfl,rfl,HI⟩:=hrel;have HGK:Hid (gk=n-k):=hgk;clear hgk;by_cases hkn:k<n
   ·obtain ⟨bo,oo,hao,hbo⟩:∃b off,a0=some ⟨b,off,none⟩/\∀i,i<l0.length->BxAt' w b (off+i) (l0.getD i noBx):=HW.out.2.2.resolve_left (fun e=>by have:=HN.out;rw [e] at this;simp at this;omega);subst hao;have hat:=hbo k (by have:=HN.out;omega);have hatr:=hat.below HI.out.bel;have hsz:=smB_at HSM.out (i:=k) (by have:=HN.out;omega);obtain ⟨z,hz⟩:∃z,l0.getD k noBx=z:=⟨_,rfl⟩;rw [hz] at hatr hsz hat;have hc4:=hatr.c0;have hst:=step_any HI.out.lv z.a z.c z.z hatr.row ((row_lt hat.row).imp id (fun hh kk ⟨x,e,hx⟩=>by have h1:=hh x e;have h2:=HB1.out.1;rw [<-hx];omega)) HI.out.bsz hsz (by have:=HI.out.cc;omega);obtain ⟨zl,hzl⟩:∃m,z.z.length=m:=⟨_,rfl⟩;rw [hzl] at hc4 hst;have hkc:k<cap0:=by omega
    clear hbo hat hatr hsz hz hzl;go_wp2_with fail
    refine hst.mono ?_;clear hst;rintro e w4 ⟨E,rfl,hE⟩;have HBL:Hid (Below w.heap.size w w4/\B<=w4.heap.size):=⟨HI.out.bel.trans (hE.1.mono HB1.out.1),jR HI.out.bsz hE.1.size⟩;clear hc4;obtain ⟨-,⟨rfl,-,h6⟩|⟨rfl,X',r',h0,hv0,hg0⟩⟩:=hE.well HI.out.v.well
    ·clear hE h6;go_wp2_with fail
     go_ret
     exact ⟨rfl,HBL.out.1⟩
    ·clear hE;have hdv:=h0.device;have hop:=lvOpen h0 hv0 HBL.out.2 (by have:=HI.out.cc;omega);have hgg:X'.g=(k:Int)+1+1:=by rw [hg0,HI.out.g]
     have HX:Hid (X'.g=(k:Int)+1+1/\X'.S.g=(k:Int)+2/\X'.P.count 0+2+X'.C.length=80):=⟨hgg,by rw [hv0.gs,hgg];omega,h0.free hv0⟩;clear h0 hv0 hg0 hgg
     go_wp2_with (first
      |(go_at_call 20;refine hdv.mono ?_;clear hdv;rintro e w' ⟨rfl,rfl⟩))
     refine hop.mono ?_;clear hop;rintro e w5 ⟨⟨aP,cP,m1,aT,cT,m2,aS,cS,m3,aG,cG,rfl⟩,X5,hl5,hv5,hb5,hX5⟩
     have hSg:X5.S.g=IntKind.i64.wrap ((k:Int)+2):=by
      rw [IntKind.wrap_i64];have h1:X5.S.g=(k:Int)+2:=by rw [hX5];exact HX.out.2.1
      omega
     have hCl:X5.P.count 0+2+X5.C.length=80:=by rw [hX5];exact HX.out.2.2
     have hS5:X'.S=X5.S:=by rw [hX5]
     have hC5:X'.C.length=X5.C.length:=by rw [hX5]
     have hg5:X5.g=((k+1:Nat):Int)+1:=by rw [hX5];exact HX.out.1
     rw [hS5,hC5];obtain ⟨S,hSS⟩:∃S,X5.S=S:=⟨_,rfl⟩;obtain ⟨q,hqq⟩:∃q,X5.C.length=q:=⟨_,rfl⟩;rw [hSS] at hSg ⊢;rw [hqq] at hCl ⊢;have hB5:Below w.heap.size w w5:=HBL.out.1.trans (hb5.mono HB1.out.1);have HL:Hid (Lv w5 B s d 80 (c+12000+4100) X5 (1-pl) r' [] z.z []/\LvW 80 X5 (1-pl) r' []/\Below w.heap.size w w5/\B<=w5.heap.size/\X5.g=((k+1:Nat):Int)+1/\X5.S=S):=⟨hl5,hv5,hB5,jR HBL.out.2 hb5.size,hg5,hSS⟩;obtain ⟨P2,hP2⟩:∃P:Int,((1-pl:Nat):Int)=P:=⟨_,rfl⟩;have hne:¬P2=(pl:Int):=by omega
     have hneb:(P2==(pl:Int))=false:=beq_eq_false_iff_ne.2 hne;have HP2:Hid (((1-pl:Nat):Int)=P2):=hP2;rw [hP2];obtain ⟨cs,hcs⟩:∃cs,rpP S P2 (.slice aP m1 cP) (.slice aT m2 cT) (.slice aS m3 cS) (.slice aG q cG)=cs:=⟨_,rfl⟩;have hcz:cs.size=13/\cs.all (·.oneCell')=true:=by rw [<-hcs];exact ⟨rfl,QI ..⟩
     have hsr:=JZ (cs:=cs) (heap_alloc_new w5 (.cells rpt0 55)) rfl hcz.1 hcz.2;have hb6:Below w5.heap.size w5 ((w5.alloc (.cells rpt0 55)).setRow w5.heap.size cs):=((Ch.of (fun _=>False) ((Below.refl _ w5).alloc (jB _) _)).setRow (.inl (jB _)) _).below (fun k e=>by cases e);have hn6:((w5.alloc (.cells rpt0 55)).setRow w5.heap.size cs).heap[w5.heap.size]?=some (.cells cs 55 (0,0)):=setRow_heap _ _ _ _ _ _ (heap_alloc_new w5 _);obtain ⟨w6,hw6⟩:∃w6,(w5.alloc (.cells rpt0 55)).setRow w5.heap.size cs=w6:=⟨_,rfl⟩;obtain ⟨u,hu⟩:∃u,w5.heap.size=u:=⟨_,rfl⟩;rw [hw6] at hsr hb6 hn6;rw [QO] at hsr;rw [hu] at hn6 hsr hw6;have hul:=yO hn6;have cu:∀i,w6.cell? ⟨u,i,none⟩=cs[i]?:=fun i=>cell_of_row w6 u i _ _ (0,0) hn6
     have c0:w6.cell? ⟨u,0,none⟩=some (.int .i64 (IntKind.i64.wrap ((k:Int)+2))):=by rw [cu,<-hcs,<-hSg];rfl
     have c1:w6.cell? ⟨u,1,none⟩=some (.int .i64 S.p):=by rw [cu,<-hcs];rfl
     have c2:w6.cell? ⟨u,2,none⟩=some (.int .i64 S.r):=by rw [cu,<-hcs];rfl
     have c3:w6.cell? ⟨u,3,none⟩=some (.int .i64 S.h):=by rw [cu,<-hcs];rfl
     have c4:w6.cell? ⟨u,4,none⟩=some (.int .i64 S.b):=by rw [cu,<-hcs];rfl
     have c5:w6.cell? ⟨u,5,none⟩=some (.int .i64 S.l):=by rw [cu,<-hcs];rfl
     have c6:w6.cell? ⟨u,6,none⟩=some (.int .i64 S.s):=by rw [cu,<-hcs];rfl
     have c7:w6.cell? ⟨u,7,none⟩=some (.int .i64 S.f):=by rw [cu,<-hcs];rfl
     have c8:w6.cell? ⟨u,8,none⟩=some (.int .i64 P2):=by rw [cu,<-hcs];rfl
     have c12:w6.cell? ⟨u,12,none⟩=some (.slice aG q cG):=by rw [cu,<-hcs];rfl
     have hl6:=hl5.keep hb6;have H6:Hid (Lv w6 B s d 80 (c+12000+4100) X5 (1-pl) r' [] z.z []/\Below w.heap.size w w6/\B<=w6.heap.size/\X5.P.count 0+2+q=80):=⟨hl6,hB5.trans (hb6.mono hB5.size),jR HL.out.2.2.2.1 hb6.size,hCl⟩;obtain ⟨Fs,hs6,-⟩:=hl6.sto;have hsu:=uS (hs6.below ((Below.refl _ w6).drew));rw [hSS] at hsu;unfold spV at hsu;rw [hSg] at hsu;rw [hcs];clear hl5 hv5 hb5 hX5 hCl hS5 hC5 hg5 hSS hqq hB5 hcz hb6 hn6 cu hl6 hs6 hcs;clear hP2
     (
      go_wp2_with fail
      go_region_held3 (fun w'=>w'.cell? ⟨u,0,none⟩=some (.int .i64 (IntKind.i64.wrap ((k:Int)+2)))/\w'.cell? ⟨u,1,none⟩=some (.int .i64 S.p)/\w'.cell? ⟨u,2,none⟩=some (.int .i64 S.r)/\w'.cell? ⟨u,3,none⟩=some (.int .i64 S.h)/\w'.cell? ⟨u,4,none⟩=some (.int .i64 S.b)/\w'.cell? ⟨u,5,none⟩=some (.int .i64 S.l)/\w'.cell? ⟨u,6,none⟩=some (.int .i64 S.s)/\w'.cell? ⟨u,7,none⟩=some (.int .i64 S.f)/\w'.cell? ⟨u,8,none⟩=some (.int .i64 P2)/\w'.cell? ⟨u,12,none⟩=some (.slice aG q cG)) (first|go_keep|exact ⟨by assumption,by assumption,by assumption,by assumption,by assumption,by assumption,by assumption,by assumption,by assumption,by assumption⟩) (first
       |(go_at_call 12;refine hsu.mono ?_;clear hsu;rintro e w7 ⟨rfl,hb7'⟩;have hb7:Below w6.heap.size w6 w7:=(Below.refl _ w6).drew.trans hb7';have d0:=(hb7.cell (p:=⟨u,0,none⟩) hul).trans c0;have d1:=(hb7.cell (p:=⟨u,1,none⟩) hul).trans c1;have d2:=(hb7.cell (p:=⟨u,2,none⟩) hul).trans c2;have d3:=(hb7.cell (p:=⟨u,3,none⟩) hul).trans c3;have d4:=(hb7.cell (p:=⟨u,4,none⟩) hul).trans c4;have d5:=(hb7.cell (p:=⟨u,5,none⟩) hul).trans c5;have d6:=(hb7.cell (p:=⟨u,6,none⟩) hul).trans c6;have d7:=(hb7.cell (p:=⟨u,7,none⟩) hul).trans c7;have d8:=(hb7.cell (p:=⟨u,8,none⟩) hul).trans c8;have d12:=(hb7.cell (p:=⟨u,12,none⟩) hul).trans c12;have dul:=jV hul hb7.size;obtain ⟨Fs2,hs7,-⟩:=(H6.out.1.keep hb7).sto;have hfr:=Free_any hs7;rw [show ((X5.P.count 0:Nat):Int)=IntKind.i64.wrap (78-(q:Int)) by have:=H6.out.2.2.2;rw [IntKind.wrap_i64];omega] at hfr;have H7:Hid (Below w6.heap.size w6 w7):=hb7;clear hb7' hs7 c0 c1 c2 c3 c4 c5 c6 c7 c8 c12)
       |(go_at_call 14;refine hfr.mono ?_;clear hfr;rintro e w8 ⟨rfl,hb8⟩;have e0:=(hb8.cell (p:=⟨u,0,none⟩) dul).trans d0;have e1:=(hb8.cell (p:=⟨u,1,none⟩) dul).trans d1;have e2:=(hb8.cell (p:=⟨u,2,none⟩) dul).trans d2;have e3:=(hb8.cell (p:=⟨u,3,none⟩) dul).trans d3;have e4:=(hb8.cell (p:=⟨u,4,none⟩) dul).trans d4;have e5:=(hb8.cell (p:=⟨u,5,none⟩) dul).trans d5;have e6:=(hb8.cell (p:=⟨u,6,none⟩) dul).trans d6;have e7:=(hb8.cell (p:=⟨u,7,none⟩) dul).trans d7;have e8:=(hb8.cell (p:=⟨u,8,none⟩) dul).trans d8;have e12:=(hb8.cell (p:=⟨u,12,none⟩) dul).trans d12;have H8:Hid (Below w6.heap.size w6 w8):=H7.out.trans (hb8.mono H7.out.size);clear hb8 d0 d1 d2 d3 d4 d5 d6 d7 d8 d12))
      go_wp2_with fail
      have HQ:Hid (GnI w w8 B s d (k+1) (c+12000+4100) X5 (1-pl) r' z.z):=⟨H6.out.1.keep H8.out,HL.out.2.1,by have:=HI.out.cc;omega,H6.out.2.1.trans (H8.out.mono H6.out.2.1.size),jR H6.out.2.2.1 H8.out.size,HL.out.2.2.2.2.1⟩;go_roundg (n-(k+1))
      case rel=>exact ⟨k+1,c+12000+4100,X5,1-pl,r',z.z,by omega,by omega,rfl,by go_num,by rw [HP2.out],HQ.out⟩
      case measure=>have:=HGK.out;omega)
   ·have hkn':k=n:=by omega
    subst hkn';have HB:Hid (Below w.heap.size w wr):=HI.out.bel;clear HI;go_wp2;go_ret
    exact ⟨rfl,HB.out⟩
end Go.Proofs.YtaijfhadecennabGreat.storeGens
