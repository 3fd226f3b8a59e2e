/- Part of a proof. -/
import Derived.Test.YtjllhcifmfhkmaaGreatAud
import Derived.Test.YtjllhcifmfhkmaaGreatBe
import Derived.Deep.RegionHeld3
import Derived.BigRegion
import Derived.Deep.DeepCutAuto
import Derived.Deep.CutBlock
import Derived.Test.YtjllhcifmfhkmaaGreatYd
set_option maxHeartbeats 4000000
namespace Go.Proofs.YtjllhcifmfhkmaaGreat.Oct
open Go.RowKit
section
variable {w w':World} {p d:Nat} {F:Nat→Prop} {D0:Dv} {L:List Int} {R:List Bool} {pcs:List C4} {ts:List (Nat × Value)}
set_option maxRecDepth 20000 in
theorem inner_p (lv:Nat) (hlv:lv≤40) (IH:BelC p d D0 L ts lv) (h:PWA w p d F D0 L R pcs ts) (n:Int) (hn:2≤n∧n≤4096) (root:Bool) (hp:pcs.length≤20*cnt R) (least:Int) (hlst:leastK root=least) (lv1:Nat) (hlv1:lv+1=lv1):
  Calls Tryz.prog 88 #[.pointer (some ⟨p,0,none⟩),.int .i64 n,.int .i64 (lv1:Int),.int .i64 least] w fun e w'=>TreeE w p d F D0 L R pcs ts (lv+1) root n e w':=by
 have hrn:=h.rn;have hb0:Below w.heap.size w (w.alloc (.cells #[.int .i64 0,.int .i64 0,.int .i64 0,.int .i64 0] 130)):=(Below.refl _ w).alloc (Nat.le_refl _) _;have h0:=h.below hb0;have hrc:=reach_any h0 n (by omega);have HB0:Hid (Step F F w (w.alloc (.cells #[.int .i64 0,.int .i64 0,.int .i64 0,.int .i64 0] 130))∧AtK (w.alloc (.cells #[.int .i64 0,.int .i64 0,.int .i64 0,.int .i64 0] 130)) w.heap.size c40∧¬F w.heap.size∧(∀x∈ts,∀a n c,x.2=.slice a n c→∀k,obl a k→k<w.heap.size)):=⟨Step.ofB hb0,heap_alloc_new w _,fun e=>by have:=h.lt _ e;omega,h.tlt⟩;have HR:Hid (R.length=D0.n∧R.length≤4096∧8≤R.length∧L.length=256*R.length∧Bys L):=hrn;have HP:Hid (pcs.length≤20*cnt R∧leastK root=least∧(2≤n∧n≤4096)):=⟨hp,hlst,hn⟩;have HPG:Hid (pgN L=R.length):=by show _=_;unfold pgN;rw [hrn.2.2.2.1];omega
 have HIH:Hid (BelC p d D0 L ts lv∧lv+1=lv1):=⟨IH,hlv1⟩;obtain ⟨w0,hw0⟩:∃w0,w.alloc (.cells #[.int .i64 0,.int .i64 0,.int .i64 0,.int .i64 0] 130)=w0:=⟨_,rfl⟩;have hs0:w0.heap.size=w.heap.size+1:=by rw [←hw0];simp
 have HS0:Hid (w0.heap.size=w.heap.size+1):=hs0;rw [hw0] at hrc HB0;have hl1: -9223372036854775808≤least∧least≤100:=by rw [←hlst];unfold leastK;split<;>omega
 have hlv2:lv1≤50:=by omega
 clear h h0 hb0 hrn hp hlst hs0 IH hlv hlv1;go_enter Tryz.func88,Tryz.ntmps88
 go_wp2_with fail
 refine hrc.mono ?_;clear hrc hw0;rintro e w1 (⟨g,c,rfl,hy,ho,hw1,hc1,-⟩|hbad);rotate_left
 ·have HE:Hid (TreeE w p d F D0 L R pcs ts (lv+1) root n e w1):=.inr (hbad.mono HB0.out.1 (fun hno T hT hF=>by
   unfold tcT at hT;split at hT
   ·next hc=>
    split at hT
    ·cases hT
    ·simp only [Option.some.injEq] at hT;subst hT;rw [Bool.and_eq_true] at hc;have hin:=inR_out hc.1;rw [HPG.out] at hin;have h1:=hF.2 n.toNat (List.mem_cons_self ..);unfold rcB at hno;rw [h1,decide_eq_true (show 0≤n by omega),decide_eq_true hin.2] at hno;cases hno
   ·cases hT))
  rcases hbad.is with rfl|rfl
  ·unfold thrA at HE ⊢;clear hbad;go_wp2;exact ⟨rfl,HE.out⟩
  ·unfold thrA at HE ⊢;clear hbad;go_wp2;exact ⟨rfl,HE.out⟩
 ·have hzb:Bys (pageOf L n.toNat):=page_bys HR.out.2.2.2.2 _
  have hin:inR (pgN L) n=true:=by
   have:=rcB_out hy;unfold inR;rw [HPG.out,decide_eq_true (show 2≤n by omega),decide_eq_true this.2.1];rfl
  obtain ⟨z,hz⟩:∃z,pageOf L n.toNat=z:=⟨_,rfl⟩;rw [hz] at ho hzb;have hpl:z.length=256:=((ho.row' hzb).1).symm;obtain ⟨E,hE⟩:∃E,reE true z=E:=⟨_,rfl⟩;obtain ⟨V,hV⟩:∃V,reV true z=V:=⟨_,rfl⟩;obtain ⟨l,hl⟩:∃l,reL true z=l:=⟨_,rfl⟩;have hlb:=reL_bd (t:=true) hzb;rw [hl] at hlb;obtain ⟨m,hm⟩:∃m,l.length=m:=⟨_,rfl⟩;have hm20:m≤20:=by omega
  have hpc:=kids_v (some ⟨g,0,none⟩) c 256 z w1 (ho.row' hzb).2 hpl E hE l hl m hm V hV
  have HT:Hid (∀T,tcT L (lv+1) root n=some T↔((E=0∧V=(lv1:Int)∧least≤(m:Int))∧∃U,tcK (tcT L lv false) l=some U∧T=⟨n.toNat::U.tp,U.pc,U.s⟩)):=fun T=>by
   rw [tcT_in_iff hin hz hl,in_ok,hE,hV,hl,hm,HP.out.2.1,HIH.out.2]
  have HL:Hid (l.length=m∧∀x∈l,okC true x=true):=⟨hm,hlb.2⟩
  have H1:Hid (PWA w1 p d F D0 L (R.set n.toNat true) pcs ts∧Step F F w w1∧AtK w1 w.heap.size c40∧w.heap.size<w1.heap.size):=by
   have hlt:=HB0.out.2.1.lt;refine ⟨hw1,HB0.out.1.trans (Step.of hc1),HB0.out.2.1.keep (hc1.block _ hlt HB0.out.2.2.1),?_⟩;have:=hc1.size;omega
  have HY:Hid (rcB R n=true):=hy;have HF1:Hid (∀k,F k→k<w1.heap.size):=hw1.lt;clear hw1 hc1 ho hzb hin hz hpl hE hl hlb hm hy hn hV;go_wp2_with fail
  refine hpc.mono ?_;clear hpc;rintro e w2 ⟨gl,cl,rfl,hol,hb2⟩
  have H2:Hid (PWA w2 p d F D0 L (R.set n.toNat true) pcs ts∧Step F F w w2∧AtK w2 w.heap.size c40∧RowC w2 gl cl l∧(∀k,obl gl k→w1.heap.size≤k∧k<w2.heap.size)∧w.heap.size<w1.heap.size):=
   ⟨H1.out.1.below hb2,H1.out.2.1.trans (Step.ofB hb2),H1.out.2.2.1.keep (hb2.block _ H1.out.2.2.1.lt),(OwnC.row' hol (fun x hx=>wfC_ok (HL.out.2 x hx))).2.1,fun k hk=>World.ownsRow.lt hol k (own_obl hk),H1.out.2.2.2⟩
  have hdy:=demand_yes w2;have hdn:=demand_no w2;have HW2:Hid (w1.heap.size≤w2.heap.size):=hb2.size;clear hol hb2;by_cases hok:E=0∧V=(lv1:Int)∧least≤(m:Int)
  ·obtain ⟨rfl,rfl,hle⟩:=hok;clear hdn H1
   have HT2:Hid (0<m∧∀T,tcT L (lv+1) root n=some T↔∃U,tcK (tcT L lv false) l=some U∧T=⟨n.toNat::U.tp,U.pc,U.s⟩):=by
    refine ⟨?_,fun T=>?_⟩
    ·have:=HP.out.2.1;unfold leastK at this;split at this<;>omega
    ·rw [HT.out T];simp [hle]
   obtain ⟨bl,ol,rfl⟩:=H2.out.2.2.2.1.some' (by rw [HL.out.1];exact HT2.out.1);go_wp2_with (go_at_call 54;refine hdy.mono ?_;rintro e w' ⟨rfl,rfl⟩)
   have HI0:Hid (KpI w (w2.alloc (.cells #[.int .i64 n,.int .i64 0,.int .i64 0,.int .i64 0] 130)) p d F F D0 L (R.set n.toNat true) pcs ts l (some ⟨bl,ol,none⟩) w.heap.size w2.heap.size 0 n lv tc0):=by
    have hbl:=(Below.refl _ w2).alloc (Nat.le_refl _) (.cells #[.int .i64 n,.int .i64 0,.int .i64 0,.int .i64 0] 130);have hlt2:=H2.out.2.2.1.lt;refine {pw:=?_,pl:=?_,t:=rfl,fr:=⟨List.nodup_nil,fun n hn=>by cases hn⟩,f:=heap_alloc_new w2 _,r:=H2.out.2.2.1.keep (hbl.block _ hlt2),row:=fun j hj=>?_,nf:=⟨fun e=>?_,Nat.le_of_lt hlt2⟩,nr:=⟨HB0.out.2.2.1,Nat.le_refl _⟩,st:=H2.out.2.1.trans (Step.ofB hbl),tf:=fun x hx a n c e=>⟨fun ho=>?_,fun ho=>?_⟩,nfr:=by omega}
    ·simp only [tc0,mkR_nil,List.append_nil];exact H2.out.1.below hbl
    ·simp only [tc0,mkR_nil,List.append_nil];have hrc:=rcB_out HY.out;rw [cnt_set (by omega) hrc.2.2];have:=HP.out.1;omega
    ·have hro:=H2.out.2.2.2.1.cells j hj;have hbn:=H2.out.2.2.2.2.1 bl ⟨_,rfl,rfl⟩;exact ⟨bl,ol,rfl,fun e=>by have:=HF1.out bl e;omega,by omega,hro.same (hbl.block bl hbn.2)⟩
    ·have:=HF1.out _ e;have:=HW2.out;omega
    ·have:=HB0.out.2.2.2 x hx a n c e _ ho;omega
    ·have:=HB0.out.2.2.2 x hx a n c e _ ho;omega
   obtain ⟨w4,hw4⟩:∃w4,w2.alloc (.cells #[.int .i64 n,.int .i64 0,.int .i64 0,.int .i64 0] 130)=w4:=⟨_,rfl⟩;obtain ⟨fb,hfb⟩:∃fb,w2.heap.size=fb:=⟨_,rfl⟩;rw [hw4,hfb] at HI0;rw [hw4,hfb];clear hw4 hfb H2 hdy;obtain ⟨R1,hR1⟩:∃R1,R.set n.toNat true=R1:=⟨_,rfl⟩;rw [hR1] at HI0;have HR1:Hid (R.set n.toNat true=R1∧R1.length=R.length):=⟨hR1,by rw [←hR1,List.length_set]⟩;clear hR1;go_loopg [41] m (fun gh i wr=>∃(k:Nat) (F':Nat→Prop) (T:Tc),k≤m∧gh=m-k∧i=.int .i64 k∧Hid (KpI w wr p d F F' D0 L R1 pcs ts l (some ⟨bl,ol,none⟩) w.heap.size fb k n lv T))
   case atStart=>exact ⟨0,F,tc0,Nat.zero_le _,rfl,rfl,HI0.out⟩
   case round=>
    clear HI0;obtain ⟨k,F',T,hk,hgk,rfl,HI⟩:=hrel;have HGK:Hid (gk=m-k):=hgk;clear hgk;by_cases hlt:k<m
    ·have hkl:k<l.length:=by rw [HL.out.1];exact hlt
     obtain ⟨b,off,e1,e2,e3,a4⟩:=HI.out.row k hkl;cases e1;have hob:=okC_bd (HL.out.2 _ (getD_mem hkl));have hN1:pgN L=R1.length:=HPG.out.trans HR1.out.2.symm;have HNX:Hid (∀(w1 w5:World) (F5:Nat→Prop) (U:Tc),_):=fun w1 w5 F5 U hb hU hq hfr h5 hp5 st=>HI.out.next (w1:=w1) (w5:=w5) (F5:=F5) (U:=U) HR.out.2.2.2.2 hN1 hkl hb hU hq hfr h5 hp5 st
     have HNO:=fun (hno:_)=>HI.out.no HR.out.2.2.2.2 hN1 hkl hno
     have HNO:Hid _:=HNO;have hsb:=sum3_bd HL.out.2 k (by omega);obtain ⟨x,hx⟩:∃x,l.getD k c40=x:=⟨_,rfl⟩;rw [hx] at a4 hob HNX HNO;have HOX:Hid (okC true x=true):=by show _=_;rw [←hx];exact HL.out.2 _ (getD_mem hkl)
     obtain ⟨xa,xb,xc,xd⟩:=x;obtain ⟨a40,a41,a42,a43⟩:=a4;simp only at a40 a41 a42 a43 hob HNX HNO;clear hx;go_upto_region 7 with fail
     obtain ⟨eb,heb⟩:∃eb,wr.heap.size=eb:=⟨_,rfl⟩;have hbk:=(Below.refl wr.heap.size wr).alloc (Nat.le_refl _) (.cells #[.int .i64 xa,.int .i64 xb,.int .i64 xc,.int .i64 xd] 130);have hke:AtK (wr.alloc (.cells #[.int .i64 xa,.int .i64 xb,.int .i64 xc,.int .i64 xd] 130)) wr.heap.size ⟨xa,xb,xc,xd⟩:=heap_alloc_new wr _;obtain ⟨wk,hwk⟩:∃wk,wr.alloc (.cells #[.int .i64 xa,.int .i64 xb,.int .i64 xc,.int .i64 xd] 130)=wk:=⟨_,rfl⟩;rw [hwk] at hbk hke ⊢;rw [heb] at hke ⊢;have hbl:=HIH.out.1 wk.drew F' (mkR R1 T.tp) (pcs++T.pc) xa ((HI.out.pw.below hbk).below (Below.refl _ wk).drew) (by omega) HI.out.pl;rw [HIH.out.2] at hbl;obtain ⟨y0,y1,y2,y3,-⟩:=hke.at;simp only at y0 y1 y2 y3
     have HKB:Hid (∀w5 F5,Step F' F5 wk.drew w5→w5.cell? ⟨eb,0,none⟩=some (.int .i64 xa)∧w5.cell? ⟨eb,1,none⟩=some (.int .i64 xb)∧w5.cell? ⟨eb,2,none⟩=some (.int .i64 xc)∧w5.cell? ⟨eb,3,none⟩=some (.int .i64 xd)):=fun w5 F5 st=>by
      have hk5:AtK w5 eb ⟨xa,xb,xc,xd⟩:=hke.keep (st.1.block eb hke.lt (fun e=>by have:=HI.out.pw.lt _ e;omega));obtain ⟨h0,h1,h2,h3,-⟩:=hk5.at;exact ⟨h0,h1,h2,h3⟩
     have HBK:Hid (Below wr.heap.size wr wk.drew):=hbk.drew
     have HBAD:Hid (∀e w5,AuBad wk.drew F' d D0 (mkR R1 T.tp).length e w5 (∀U,tcT L lv false xa=some U→¬FrR (mkR R1 T.tp) U.tp)→TreeE w p d F D0 L R pcs ts (lv+1) root n e w5):=fun e w5 hb=>by
      have st0:Step F F' w wk.drew:=HI.out.st.trans (Step.ofB HBK.out)
      have:=hb.mono (no':=∀V,tcT L (lv+1) root n=some V→¬FrR R V.tp) st0 (fun hno V hV hF=>by
       obtain ⟨U,hU,rfl⟩:=(HT2.out.2 V).1 hV;have h2:FrR R ([n.toNat]++U.tp):=hF;have hIU:=tcK_in (fun n T=>tcT_in HR.out.2.2.2.2 lv false n T) _ _ hU;have h3:=((fr_two (fun x hx=>by rw [←HPG.out];exact (hIU.1 x hx).2)).1 h2).2;rw [←set_mkR,HR1.out.1] at h3;exact HNO.out (fun U h1 _=>hno U h1) U hU h3)
      rw [mkR_len,HR1.out.2] at this;exact .inr this
     clear hke hbk hwk a40 a41 a42 a43;refine wp_region_held_drew (S:=(fun w'=>w'.cell? ⟨eb,0,none⟩=some (.int .i64 xa)∧w'.cell? ⟨eb,1,none⟩=some (.int .i64 xb)∧w'.cell? ⟨eb,2,none⟩=some (.int .i64 xc)∧w'.cell? ⟨eb,3,none⟩=some (.int .i64 xd))) (by kernel_rfl) ?_ (fun hHeld=>?_)
     ·(first|go_keep|assumption)
     refine tkH ?_ 0 ?_ ?_;rotate_left
     ·(intro w hSw;(try dsimp only at hSw);go_simp;first|done|with_reducible rfl)
     simp only [gx];refine tkH ?_ 1 ?_ ?_;rotate_left
     ·(intro w hSw;(try dsimp only at hSw);go_simp;first|done|with_reducible rfl)
     simp only [gx];refine tkH ?_ 2 ?_ ?_;rotate_left
     ·(intro w hSw;(try dsimp only at hSw);go_simp;first|done|with_reducible rfl)
     simp only [gx];refine tkH ?_ 3 ?_ ?_;rotate_left
     ·(intro w hSw;(try dsimp only at hSw);go_simp;first|done|with_reducible rfl)
     simp only [gx];refine tkH ?_ 5 ?_ ?_;rotate_left
     ·(intro w hSw;(try dsimp only at hSw);go_simp;first|done|with_reducible rfl)
     simp only [gx];refine wpAnyH_ready (rs:=[4]) (by kernel_rfl) (by simp) ?_;refine AllReadyH.cons rfl (fun K hK=>?_) AllReadyH.nil;go_simp;refine hbl.mono ?_;clear hbl;rintro e w5 hE5;rcases hE5 with ⟨U,F5,rfl,hU,hfr5,h5,hp5,st5⟩|hbad;rotate_left
     ·have HE:Hid (TreeE w p d F D0 L R pcs ts (lv+1) root n e w5):=HBAD.out e w5 hbad;rcases hbad.is with rfl|rfl
      ·unfold thrA at HE ⊢;clear hbad;go_wp2;exact ⟨rfl,HE.out⟩
      ·unfold thrA at HE ⊢;clear hbad;go_wp2;exact ⟨rfl,HE.out⟩
     obtain ⟨v0,v1,v2,v3⟩:=HKB.out w5 F5 st5;have H5:Hid (tcT L lv false xa=some U∧FrR (mkR R1 T.tp) U.tp∧PWA w5 p d F5 D0 L (mkR (mkR R1 T.tp) U.tp) (pcs++T.pc++U.pc) ts∧(pcs++T.pc++U.pc).length≤20*cnt (mkR (mkR R1 T.tp) U.tp)∧Step F' F5 wk.drew w5):=⟨hU,hfr5,h5,hp5,st5⟩;clear hU hfr5 h5 hp5 st5;unfold c4V;simp only;go_wp2_with fail
     try simp only [gx]
     refine hK.out _ _ ?_ (fun hHeld2=>?_)
     ·(first|go_keep|assumption)
     clear hK K hHeld;have hHeld:=hHeld2;clear hHeld2;obtain ⟨up,hup⟩:∃up,U.s.p=up:=⟨_,rfl⟩;obtain ⟨ub,hub⟩:∃ub,U.s.b=ub:=⟨_,rfl⟩;obtain ⟨ul,hul⟩:∃ul,U.s.l=ul:=⟨_,rfl⟩;rw [hup,hub,hul];have HUS:Hid (U.s.p=up∧U.s.b=ub∧U.s.l=ul):=⟨hup,hub,hul⟩;clear hup hub hul;by_cases q1:up=xb
     ·subst q1;by_cases q2:ub=xc
      ·subst q2;by_cases q3:ul=xd
       ·subst q3;refine tkH ?_ 6 ?_ ?_;rotate_left
        ·(intro w hSw;(try dsimp only at hSw);go_simp;first|done|with_reducible rfl)
        simp only [gx];refine wpAnyH_ready (rs:=[7]) (by kernel_rfl) (by simp) ?_;refine AllReadyH.cons rfl (fun K hK=>?_) AllReadyH.nil;go_simp;refine (demand_yes w5).mono ?_;rintro e w' ⟨rfl,rfl⟩;go_wp2_with fail
        refine hK.out _ _ ?_ (fun hHeld2=>?_)
        ·(first|go_keep|assumption)
        clear hK K hHeld hHeld2;refine wpAnyH_done (by kernel_rfl) ?_ _;obtain ⟨hU,hfr5,h5,hp5,st5⟩:=H5.out;have hqq:kdQ U.s ⟨xa,up,ub,ul⟩=true:=by unfold kdQ;rw [HUS.out.1,HUS.out.2.1,HUS.out.2.2];simp
        obtain ⟨hf5,hnx⟩:=HNX.out wk.drew w5 F5 U HBK.out hU hqq hfr5 h5 hp5 st5;have HNX5:Hid (KpI w (putF w5 fb (sum3 l k) ⟨up,ub,ul⟩) p d F F5 D0 L R1 pcs ts l (some ⟨bl,ol,none⟩) w.heap.size fb (k+1) n lv (tcA T U)):=hnx;obtain ⟨f0,f1,f2,f3,ff⟩:=hf5.at;have ff1:=ff 1;have ff2:=ff 2;have ff3:=ff 3;have neb:¬eb=fb:=by have:=HI.out.f.lt;omega
        obtain ⟨S3v,hS3⟩:∃S3v,sum3 l k=S3v:=⟨_,rfl⟩;rw [hS3] at HNX5 hsb;simp only [hS3] at f1 f2 f3;obtain ⟨zp,zb,zl⟩:=S3v;obtain ⟨sb1,sb2,sb3⟩:=hsb;simp only at f1 f2 f3 sb1 sb2 sb3;clear hU hfr5 h5 hp5 st5 hf5 hnx ff hS3 H5 HNX HNO HBAD HKB HI hqq f0;go_wp2;go_roundg (m-(k+1))
        case rel=>exact ⟨k+1,F5,tcA T U,by omega,rfl,by go_num,HNX5.out⟩
        case measure=>have:=HGK.out;omega
       ·have q3':(ul==xd)=false:=by simpa using q3
        have HQN:Hid (kdQ U.s ⟨xa,up,ub,xd⟩=false):=by show _=false;unfold kdQ;simp only [HUS.out.1,HUS.out.2.1,HUS.out.2.2,q3'];simp
        refine tkH ?_ 6 ?_ ?_;rotate_left
        ·(intro w hSw;(try dsimp only at hSw);go_simp;first|done|with_reducible rfl)
        simp only [gx];refine wpAnyH_ready (rs:=[7]) (by kernel_rfl) (by simp) ?_;refine AllReadyH.cons rfl (fun K hK=>?_) AllReadyH.nil;go_simp;refine (demand_no w5).mono ?_;rintro e w' ⟨rfl,rfl⟩
        have HE:Hid (TreeE w p d F D0 L R pcs ts (lv+1) root n (thrA 8) w5):=by
         obtain ⟨hU,hfr5,h5,hp5,st5⟩:=H5.out
         have:=h5.bad (no:=∀V,tcT L (lv+1) root n=some V→¬FrR R V.tp) (fun V hV hF=>by
          obtain ⟨Z,hZ,rfl⟩:=(HT2.out.2 V).1 hV;have h2:FrR R ([n.toNat]++Z.tp):=hF;have hIZ:=tcK_in (fun n T=>tcT_in HR.out.2.2.2.2 lv false n T) _ _ hZ;have h3:=((fr_two (fun x hx=>by rw [←HPG.out];exact (hIZ.1 x hx).2)).1 h2).2;rw [←set_mkR,HR1.out.1] at h3;refine HNO.out (fun U' h1 h2=>?_) Z hZ h3;rw [hU] at h1;cases h1;rw [HQN.out] at h2;cases h2) ((HI.out.st.trans (Step.ofB HBK.out)).trans st5)
         rw [mkR_len,mkR_len,HR1.out.2] at this;exact .inr this
        unfold thrA at HE ⊢;clear hHeld H5 HNX HNO HBAD HKB HI;go_wp2;exact ⟨rfl,HE.out⟩
      ·have q2':(ub==xc)=false:=by simpa using q2
       have HQN:Hid (kdQ U.s ⟨xa,up,xc,xd⟩=false):=by show _=false;unfold kdQ;simp only [HUS.out.1,HUS.out.2.1,HUS.out.2.2,q2'];simp
       refine tkH ?_ 6 ?_ ?_;rotate_left
       ·(intro w hSw;(try dsimp only at hSw);go_simp;first|done|with_reducible rfl)
       simp only [gx];refine wpAnyH_ready (rs:=[7]) (by kernel_rfl) (by simp) ?_;refine AllReadyH.cons rfl (fun K hK=>?_) AllReadyH.nil;go_simp;refine (demand_no w5).mono ?_;rintro e w' ⟨rfl,rfl⟩
       have HE:Hid (TreeE w p d F D0 L R pcs ts (lv+1) root n (thrA 8) w5):=by
        obtain ⟨hU,hfr5,h5,hp5,st5⟩:=H5.out
        have:=h5.bad (no:=∀V,tcT L (lv+1) root n=some V→¬FrR R V.tp) (fun V hV hF=>by
         obtain ⟨Z,hZ,rfl⟩:=(HT2.out.2 V).1 hV;have h2:FrR R ([n.toNat]++Z.tp):=hF;have hIZ:=tcK_in (fun n T=>tcT_in HR.out.2.2.2.2 lv false n T) _ _ hZ;have h3:=((fr_two (fun x hx=>by rw [←HPG.out];exact (hIZ.1 x hx).2)).1 h2).2;rw [←set_mkR,HR1.out.1] at h3;refine HNO.out (fun U' h1 h2=>?_) Z hZ h3;rw [hU] at h1;cases h1;rw [HQN.out] at h2;cases h2) ((HI.out.st.trans (Step.ofB HBK.out)).trans st5)
        rw [mkR_len,mkR_len,HR1.out.2] at this;exact .inr this
       unfold thrA at HE ⊢;clear hHeld H5 HNX HNO HBAD HKB HI;go_wp2;exact ⟨rfl,HE.out⟩
     ·have q1':(up==xb)=false:=by simpa using q1
      have HQN:Hid (kdQ U.s ⟨xa,xb,xc,xd⟩=false):=by show _=false;unfold kdQ;simp only [HUS.out.1,HUS.out.2.1,HUS.out.2.2,q1'];simp
      refine tkH ?_ 6 ?_ ?_;rotate_left
      ·(intro w hSw;(try dsimp only at hSw);go_simp;first|done|with_reducible rfl)
      simp only [gx];refine wpAnyH_ready (rs:=[7]) (by kernel_rfl) (by simp) ?_;refine AllReadyH.cons rfl (fun K hK=>?_) AllReadyH.nil;go_simp;refine (demand_no w5).mono ?_;rintro e w' ⟨rfl,rfl⟩
      have HE:Hid (TreeE w p d F D0 L R pcs ts (lv+1) root n (thrA 8) w5):=by
       obtain ⟨hU,hfr5,h5,hp5,st5⟩:=H5.out
       have:=h5.bad (no:=∀V,tcT L (lv+1) root n=some V→¬FrR R V.tp) (fun V hV hF=>by
        obtain ⟨Z,hZ,rfl⟩:=(HT2.out.2 V).1 hV;have h2:FrR R ([n.toNat]++Z.tp):=hF;have hIZ:=tcK_in (fun n T=>tcT_in HR.out.2.2.2.2 lv false n T) _ _ hZ;have h3:=((fr_two (fun x hx=>by rw [←HPG.out];exact (hIZ.1 x hx).2)).1 h2).2;rw [←set_mkR,HR1.out.1] at h3;refine HNO.out (fun U' h1 h2=>?_) Z hZ h3;rw [hU] at h1;cases h1;rw [HQN.out] at h2;cases h2) ((HI.out.st.trans (Step.ofB HBK.out)).trans st5)
       rw [mkR_len,mkR_len,HR1.out.2] at this;exact .inr this
      unfold thrA at HE ⊢;clear hHeld H5 HNX HNO HBAD HKB HI;go_wp2;exact ⟨rfl,HE.out⟩
    ·have hkm:k=m:=by omega
     subst hkm;obtain ⟨f0,f1,f2,f3,ff⟩:=HI.out.f.at;obtain ⟨r0,r1,r2,r3,rf⟩:=HI.out.r.at;obtain ⟨S3v,hS3⟩:∃S3v,sum3 l k=S3v:=⟨_,rfl⟩;simp only [hS3] at f0 f1 f2 f3;obtain ⟨zp,zb,zl⟩:=S3v;simp only at f0 f1 f2 f3;obtain ⟨y1,y2,y3⟩:=HI.out.done ⟨n,zp,zb,zl⟩
     have HD:Hid (AtK (putK wr w.heap.size ⟨n,zp,zb,zl⟩) w.heap.size ⟨n,zp,zb,zl⟩∧TreeE w p d F D0 L R pcs ts (lv+1) root n (.returned (c4V ⟨n,zp,zb,zl⟩)) (putK wr w.heap.size ⟨n,zp,zb,zl⟩)):=by
      have hlk:=HL.out.1;have ht:=HI.out.t;rw [←hlk,List.take_length] at ht;have hs:=tcK_sum _ _ ht;rw [hlk,hS3] at hs;have hIT:=tcK_in (fun n T=>tcT_in HR.out.2.2.2.2 lv false n T) _ _ ht;have hrc:=rcB_out HY.out;have e1:mkR R1 T.tp=mkR R (n.toNat::T.tp):=by rw [←HR1.out.1,mkR_set]
      refine ⟨y1,.inl ⟨⟨n.toNat::T.tp,T.pc,T.s⟩,F',by rw [hs],(HT2.out.2 _).2 ⟨T,ht,rfl⟩,?_,by rw [←e1];exact y2,by rw [←e1];exact HI.out.pl,y3⟩⟩;have h1:FrR R ([n.toNat]++T.tp):=(fr_two (fun x hx=>by rw [←HPG.out];exact (hIT.1 x hx).2)).2 ⟨(fr_one (by omega) hrc.2.1).2 HY.out,by rw [←set_mkR,HR1.out.1];exact HI.out.fr⟩;exact h1
     have rf0:=rf 0;have rf1:=rf 1;have rf2:=rf 2;have rf3:=rf 3;have hfr:=HI.out.nfr;clear HI rf ff y1 y2 y3 hS3;go_wp2;refine bodyPost_ret (results_cell_row rfl _ _ w.heap.size _ #[.int .i64 n,.int .i64 zp,.int .i64 zb,.int .i64 zl] (0,0) _ rfl HD.out.1 Tryz.underlying130 rfl (by kernel_rfl)) rfl ?_;exact HD.out.2
  ·have HE:Hid (TreeE w p d F D0 L R pcs ts (lv+1) root n (thrA 8) w2):=by
    have:=H2.out.1.bad (no:=∀T,tcT L (lv+1) root n=some T→¬FrR R T.tp) (fun T hT=>absurd ((HT.out T).1 hT).1 hok) H2.out.2.1;rw [List.length_set] at this;exact .inr this
   unfold thrA at HE;unfold thrA at hdn;by_cases hE0:E=0
   ·subst hE0;by_cases hV0:V=(lv1:Int)
    ·subst hV0;have hle:(m:Int)<least:=by omega
     have hld:decide (least≤(m:Int))=false:=by rw [decide_eq_false_iff_not];omega
     clear hok hdy H1 H2;go_wp2_with (go_at_call 54;refine hdn.mono ?_;rintro e w' ⟨rfl,rfl⟩)
     exact ⟨rfl,HE.out⟩
    ·have hV1:(V==(lv1:Int))=false:=by rw [beq_eq_false_iff_ne];exact hV0
     clear hok hdy H1 H2 hV0;go_wp2_with (go_at_call 54;refine hdn.mono ?_;rintro e w' ⟨rfl,rfl⟩)
     exact ⟨rfl,HE.out⟩
   ·have hE1:(E==0)=false:=by simpa using hE0
    clear hok hdy H1 H2 hE0;go_wp2_with (go_at_call 54;refine hdn.mono ?_;rintro e w' ⟨rfl,rfl⟩)
    exact ⟨rfl,HE.out⟩
set_option maxRecDepth 20000 in
theorem below_p:∀(lv:Nat),lv≤41→BelC p d D0 L ts lv:=by
 intro lv
 induction lv with
 |zero=>
  intro _ w F R pcs n h hn hp;have hb0:Below w.heap.size w (w.alloc (.cells #[.int .i64 0,.int .i64 0,.int .i64 0,.int .i64 0] 130)):=(Below.refl _ w).alloc (Nat.le_refl _) _;have hlf:=leaf_p (h.below hb0) n hn false hp 10 rfl;have HON:Hid (∀e w1,TreeE (w.alloc (.cells #[.int .i64 0,.int .i64 0,.int .i64 0,.int .i64 0] 130)) p d F D0 L R pcs ts 0 false n e w1→_):=fun e w1 hE=>hE.on (Step.ofB hb0) (fun e=>by have:=h.lt _ e;omega) (heap_alloc_new w _) h.tlt
  clear h hb0 hp hn;go_enter Tryz.func109,Tryz.ntmps109
  go_wp2_with fail
  refine hlf.mono ?_;clear hlf;rintro e w1 hE;rcases HON.out e w1 hE with ⟨q,rfl,hk1,hk2,hE2⟩|⟨rfl|rfl,hE2⟩
  ·obtain ⟨k0,k1,k2,k3,kf⟩:=hk1.at;have kf0:=kf 0;have kf1:=kf 1;have kf2:=kf 2;have kf3:=kf 3;have HD:Hid (AtK (putK w1 w.heap.size q) w.heap.size q∧TreeE w p d F D0 L R pcs ts 0 false n (.returned (c4V q)) (putK w1 w.heap.size q)):=⟨hk2,hE2⟩;obtain ⟨qa,qb,qc,qd⟩:=q;unfold c4V;simp only;clear hE HON hk1 hk2 hE2 kf;go_wp2;refine bodyPost_ret (results_cell_row rfl _ _ w.heap.size _ #[.int .i64 qa,.int .i64 qb,.int .i64 qc,.int .i64 qd] (0,0) _ rfl HD.out.1 Tryz.underlying130 rfl (by kernel_rfl)) rfl ?_;exact HD.out.2
  ·have HD:Hid (TreeE w p d F D0 L R pcs ts 0 false n (thrA 8) w1):=hE2;unfold thrA at HD ⊢;clear hE HON hE2;go_wp2;exact ⟨rfl,HD.out⟩
  ·have HD:Hid (TreeE w p d F D0 L R pcs ts 0 false n (thrA 7) w1):=hE2;unfold thrA at HD ⊢;clear hE HON hE2;go_wp2;exact ⟨rfl,HD.out⟩
 |succ lv ih=>
  intro hlv w F R pcs n h hn hp;have hb0:Below w.heap.size w (w.alloc (.cells #[.int .i64 0,.int .i64 0,.int .i64 0,.int .i64 0] 130)):=(Below.refl _ w).alloc (Nat.le_refl _) _;obtain ⟨lv1,hlv1⟩:∃lv1,lv+1=lv1:=⟨_,rfl⟩;obtain ⟨lv2,hlv2⟩:∃lv2,lv+1+1=lv2:=⟨_,rfl⟩;have hlf:=inner_p lv (by omega) (ih (by omega)) (h.below hb0) n hn false hp 6 rfl lv1 hlv1;have HON:Hid (∀e w1,TreeE (w.alloc (.cells #[.int .i64 0,.int .i64 0,.int .i64 0,.int .i64 0] 130)) p d F D0 L R pcs ts (lv+1) false n e w1→_):=fun e w1 hE=>hE.on (Step.ofB hb0) (fun e=>by have:=h.lt _ e;omega) (heap_alloc_new w _) h.tlt
  rw [hlv2];have h1:((lv2:Int)-1)=(lv1:Int):=by omega
  have h2:((lv2:Int)==1)=false:=by rw [beq_eq_false_iff_ne];omega
  have h3:1<lv2:=by omega
  have h4:lv2≤50:=by omega
  clear h hb0 hp hn ih hlv1 hlv2 hlv;go_enter Tryz.func109,Tryz.ntmps109
  go_wp2_with fail
  refine hlf.mono ?_;clear hlf;rintro e w1 hE;rcases HON.out e w1 hE with ⟨q,rfl,hk1,hk2,hE2⟩|⟨rfl|rfl,hE2⟩
  ·obtain ⟨k0,k1,k2,k3,kf⟩:=hk1.at;have kf0:=kf 0;have kf1:=kf 1;have kf2:=kf 2;have kf3:=kf 3;have HD:Hid (AtK (putK w1 w.heap.size q) w.heap.size q∧TreeE w p d F D0 L R pcs ts (lv+1) false n (.returned (c4V q)) (putK w1 w.heap.size q)):=⟨hk2,hE2⟩;obtain ⟨qa,qb,qc,qd⟩:=q;unfold c4V;simp only;clear hE HON hk1 hk2 hE2 kf;go_wp2;refine bodyPost_ret (results_cell_row rfl _ _ w.heap.size _ #[.int .i64 qa,.int .i64 qb,.int .i64 qc,.int .i64 qd] (0,0) _ rfl HD.out.1 Tryz.underlying130 rfl (by kernel_rfl)) rfl ?_;exact HD.out.2
  ·have HD:Hid (TreeE w p d F D0 L R pcs ts (lv+1) false n (thrA 8) w1):=hE2;unfold thrA at HD ⊢;clear hE HON hE2;go_wp2;exact ⟨rfl,HD.out⟩
  ·have HD:Hid (TreeE w p d F D0 L R pcs ts (lv+1) false n (thrA 7) w1):=hE2;unfold thrA at HD ⊢;clear hE HON hE2;go_wp2;exact ⟨rfl,HD.out⟩
end
def TrE (w:World) (p d:Nat) (F:Nat→Prop) (D0:Dv) (L:List Int) (R:List Bool) (pcs:List C4) (ts:List (Nat × Value)) (S:Sp) (e:Ending) (w':World):Prop:=
 (∃T F',e=.returned (.tuple #[])∧suT L S=some T∧FrR R T.tp∧(T.s.b=S.b∧T.s.l=S.l)∧PWA w' p d F' D0 L (mkR R T.tp) (pcs++T.pc) ts∧(pcs++T.pc).length≤20*cnt (mkR R T.tp)∧Step F F' w w')∨
 AuBad w F d D0 R.length e w' (∀T,suT L S=some T→T.s.b=S.b→T.s.l=S.l→¬FrR R T.tp)
def spC' (S:Sp):Array Value:= #[.int .i64 S.g,.int .i64 S.p,.int .i64 S.r,.int .i64 S.h,.int .i64 S.b,.int .i64 S.l,.int .i64 S.s,.int .i64 S.f]
section
variable {w w':World} {p d:Nat} {F:Nat→Prop} {D0:Dv} {L:List Int} {R:List Bool} {pcs:List C4} {ts:List (Nat × Value)}
set_option maxRecDepth 20000 in
theorem tree_p (h:PWA w p d F D0 L R pcs ts) (S:Sp) (hS:okS S=true) (hSp:S.p=(R.length:Int)) (hp:pcs.length≤20*cnt R):
  Calls Tryz.prog 56 #[.pointer (some ⟨p,0,none⟩),spV S] w fun e w'=>TrE w p d F D0 L R pcs ts S e w':=by
 have hrn:=h.rn;have hS':=hS;unfold okS fitS ldB at hS';simp only [Bool.and_eq_true,decide_eq_true_eq] at hS';have hbx:Below w.heap.size w (w.alloc (.cells #[.int .i64 S.g,.int .i64 S.p,.int .i64 S.r,.int .i64 S.h,.int .i64 S.b,.int .i64 S.l,.int .i64 S.s,.int .i64 S.f] 28)):=(Below.refl _ w).alloc (Nat.le_refl _) _;have hbx2:Below w.heap.size w ((w.alloc (.cells #[.int .i64 S.g,.int .i64 S.p,.int .i64 S.r,.int .i64 S.h,.int .i64 S.b,.int .i64 S.l,.int .i64 S.s,.int .i64 S.f] 28)).alloc (.cells #[.int .i64 0,.int .i64 0,.int .i64 0,.int .i64 0] 130)):=hbx.alloc hbx.size _;by_cases hr0:S.r=0
 ·have hr1:(S.r==0)=true:=by simpa using hr0
  have HE:Hid (TrE w p d F D0 L R pcs ts S (.returned (.tuple #[])) (w.alloc (.cells #[.int .i64 S.g,.int .i64 S.p,.int .i64 S.r,.int .i64 S.h,.int .i64 S.b,.int .i64 S.l,.int .i64 S.s,.int .i64 S.f] 28))):=by
   refine .inl ⟨tc0,F,rfl,by unfold suT;rw [if_pos hr0],⟨List.nodup_nil,fun n hn=>by cases hn⟩,⟨?_,?_⟩,?_,?_,Step.ofB hbx⟩
   ·show (0:Int)=S.b;omega
   ·show (0:Int)=S.l;omega
   ·simp only [tc0,mkR_nil,List.append_nil];exact h.below hbx
   ·simp only [tc0,mkR_nil,List.append_nil];exact hp
  unfold spV;clear h hbx hbx2 hrn hS hS' hSp hp hr0;go_enter Tryz.func56,Tryz.ntmps56
  go_wp2;refine bodyPost_ret (results_none rfl _ _ _) rfl ?_;exact HE.out
 ·have hr1:(S.r==0)=false:=by simpa using hr0
  obtain ⟨lv,hlv⟩:=Int.eq_ofNat_of_zero_le (show 0≤S.h-1 by omega);have hsu:suT L S=tcT L lv true S.r:=by unfold suT;rw [if_neg hr0,hlv];rfl
  have hh:0≤S.h∧S.h≤32:=by omega
  have HSU:Hid (suT L S=tcT L lv true S.r):=hsu;have hrb:2≤S.r∧S.r≤4096:=by omega
  have hl31:lv≤31:=by omega
  have H0:=h.below hbx2;have hlf:lv=0→Calls Tryz.prog 87 #[.pointer (some ⟨p,0,none⟩),.int .i64 S.r,.int .i64 1] _ _:=fun e=>leaf_p H0 S.r hrb true hp 1 rfl
  have hin:∀l',lv=l'+1→Calls Tryz.prog 88 #[.pointer (some ⟨p,0,none⟩),.int .i64 S.r,.int .i64 (lv:Int),.int .i64 2] _ _:=fun l' e=>inner_p l' (by omega) (below_p l' (by omega)) H0 S.r hrb true hp 2 rfl lv e.symm
  have hsz2:((w.alloc (.cells #[.int .i64 S.g,.int .i64 S.p,.int .i64 S.r,.int .i64 S.h,.int .i64 S.b,.int .i64 S.l,.int .i64 S.s,.int .i64 S.f] 28)).alloc (.cells #[.int .i64 0,.int .i64 0,.int .i64 0,.int .i64 0] 130)).heap.size=w.heap.size+2:=by simp
  have hks:=heap_alloc2_old w (.cells #[.int .i64 S.g,.int .i64 S.p,.int .i64 S.r,.int .i64 S.h,.int .i64 S.b,.int .i64 S.l,.int .i64 S.s,.int .i64 S.f] 28) (.cells #[.int .i64 0,.int .i64 0,.int .i64 0,.int .i64 0] 130);have hkk:=heap_alloc2_new w (.cells #[.int .i64 S.g,.int .i64 S.p,.int .i64 S.r,.int .i64 S.h,.int .i64 S.b,.int .i64 S.l,.int .i64 S.s,.int .i64 S.f] 28) (.cells #[.int .i64 0,.int .i64 0,.int .i64 0,.int .i64 0] 130);have HFL:Hid ((∀k,F k→k<w.heap.size)∧(∀x∈ts,∀a n c,x.2=.slice a n c→∀k,obl a k→k<w.heap.size)):=⟨h.lt,h.tlt⟩;obtain ⟨w0,hw0⟩:∃w0,((w.alloc (.cells #[.int .i64 S.g,.int .i64 S.p,.int .i64 S.r,.int .i64 S.h,.int .i64 S.b,.int .i64 S.l,.int .i64 S.s,.int .i64 S.f] 28)).alloc (.cells #[.int .i64 0,.int .i64 0,.int .i64 0,.int .i64 0] 130))=w0:=⟨_,rfl⟩;rw [hw0] at hbx2 H0 hlf hin hsz2 hks hkk;have s3:w0.cell? ⟨w.heap.size,3,none⟩=some (.int .i64 S.h):=by rw [cell_of_row w0 _ _ _ _ (0,0) hks];rfl
  have s2:w0.cell? ⟨w.heap.size,2,none⟩=some (.int .i64 S.r):=by rw [cell_of_row w0 _ _ _ _ (0,0) hks];rfl
  have HW:Hid (Below w.heap.size w w0∧w0.heap.size=w.heap.size+2∧w0.heap[w.heap.size]?=some (.cells (spC' S) 28 (0,0))∧AtK w0 (w.heap.size+1) c40):=⟨hbx2,hsz2,hks,hkk⟩
  have hon:∀{e w1},TreeE w0 p d F D0 L R pcs ts lv true S.r e w1→((∃T F',e=.returned (c4V ⟨S.r,T.s.p,T.s.b,T.s.l⟩)∧suT L S=some T∧FrR R T.tp∧AtK w1 (w.heap.size+1) c40∧∀wx,wx=putK w1 (w.heap.size+1) ⟨S.r,T.s.p,T.s.b,T.s.l⟩→AtK wx (w.heap.size+1) ⟨S.r,T.s.p,T.s.b,T.s.l⟩∧PWA wx p d F' D0 L (mkR R T.tp) (pcs++T.pc) ts∧(pcs++T.pc).length≤20*cnt (mkR R T.tp)∧Step F F' w wx∧wx.heap[w.heap.size]?=some (.cells (spC' S) 28 (0,0)))∨((e=thrA 8∨e=thrA 7)∧TrE w p d F D0 L R pcs ts S e w1)):=by
   intro e w1 hE;rcases hE with ⟨T,F',rfl,h1,h2,h3,h4,h5⟩|hE
   ·have hnk:¬F (w.heap.size+1):=fun e=>by have:=HFL.out.1 _ e;omega
    have hns:¬F w.heap.size:=fun e=>by have:=HFL.out.1 _ e;omega
    have hk1:AtK w1 (w.heap.size+1) c40:=HW.out.2.2.2.keep (h5.1.block _ HW.out.2.2.2.lt hnk);refine .inl ⟨T,F',rfl,HSU.out.trans h1,h2,hk1,?_⟩;rintro wx rfl;have hc:=putK_ch w1 (w.heap.size+1) ⟨S.r,T.s.p,T.s.b,T.s.l⟩;have hst:Step F F' w w1:=(Step.ofB HW.out.1).trans h5;refine ⟨hk1.putK _,h3.other hc (h5.notin HW.out.2.2.2.lt hnk) (fun x hx a m c e ho=>by have:=HFL.out.2 x hx a m c e _ ho;omega),h4,⟨hst.1.trans (hc.mono hst.1.size (fun k hk e=>by omega)),hst.2⟩,?_⟩;rw [hc.block w.heap.size (by have:=heap_lt hk1;omega) (by omega),h5.1.block _ (by have:=HW.out.2.1;omega) hns];exact HW.out.2.2.1
   ·exact .inr ⟨hE.is,.inr (hE.mono (Step.ofB HW.out.1) (fun hno T hT _ _=>hno T (HSU.out.symm.trans hT)))⟩
  have HON:Hid (∀e w1,TreeE w0 p d F D0 L R pcs ts lv true S.r e w1→_):=fun e w1=>hon (e:=e) (w1:=w1)
  unfold spV;clear h hbx hbx2 hrn hS hS' hSp hp hr0 H0 hsz2 hks hkk hon hsu;go_enter Tryz.func56,Tryz.ntmps56
  go_upto_region 3 with fail
  clear hw0;go_upto_if 13 with fail
  go_cut [] (fun wx=>∃T F',Hid (suT L S=some T∧FrR R T.tp∧AtK wx (w.heap.size+1) ⟨S.r,T.s.p,T.s.b,T.s.l⟩∧PWA wx p d F' D0 L (mkR R T.tp) (pcs++T.pc) ts∧(pcs++T.pc).length≤20*cnt (mkR R T.tp)∧Step F F' w wx∧wx.heap[w.heap.size]?=some (.cells (spC' S) 28 (0,0))))
  case first=>
   by_cases h0:lv=0
   ·have hb:((lv:Int)==0)=true:=by rw [beq_iff_eq];omega
    subst h0;have hc:=hlf rfl;go_wp2_with fail
    refine hc.mono ?_;clear hc;rintro e w1 hE;rcases HON.out e w1 hE with ⟨T,F',rfl,g1,g2,g3,g4⟩|⟨rfl|rfl,hE2⟩
    ·obtain ⟨k0,k1,k2,k3,kf⟩:=g3.at;have kf0:=kf 0;have kf1:=kf 1;have kf2:=kf 2;have kf3:=kf 3;have HG:Hid (suT L S=some T∧FrR R T.tp∧∀wx,wx=putK w1 (w.heap.size+1) ⟨S.r,T.s.p,T.s.b,T.s.l⟩→AtK wx (w.heap.size+1) ⟨S.r,T.s.p,T.s.b,T.s.l⟩∧PWA wx p d F' D0 L (mkR R T.tp) (pcs++T.pc) ts∧(pcs++T.pc).length≤20*cnt (mkR R T.tp)∧Step F F' w wx∧wx.heap[w.heap.size]?=some (.cells (spC' S) 28 (0,0))):=⟨g1,g2,g4⟩;unfold c4V;simp only;clear hE HON g1 g2 g3 g4 kf hlf hin;go_wp2_with fail
     go_meet
     case rel=>exact ⟨T,F',HG.out.1,HG.out.2.1,HG.out.2.2 _ rfl⟩
    ·have HD:Hid (TrE w p d F D0 L R pcs ts S (thrA 8) w1):=hE2;unfold thrA at HD ⊢;clear hE HON hE2 hlf hin;go_wp2;exact ⟨rfl,HD.out⟩
    ·have HD:Hid (TrE w p d F D0 L R pcs ts S (thrA 7) w1):=hE2;unfold thrA at HD ⊢;clear hE HON hE2 hlf hin;go_wp2;exact ⟨rfl,HD.out⟩
   ·have hb:((lv:Int)==0)=false:=by rw [beq_eq_false_iff_ne];omega
    obtain ⟨l',hl'⟩:∃l',lv=l'+1:=⟨lv-1,by omega⟩;have hc:=hin l' hl';rw [←hl'] at hc;clear hl';go_wp2_with fail
    refine hc.mono ?_;clear hc;rintro e w1 hE;rcases HON.out e w1 hE with ⟨T,F',rfl,g1,g2,g3,g4⟩|⟨rfl|rfl,hE2⟩
    ·obtain ⟨k0,k1,k2,k3,kf⟩:=g3.at;have kf0:=kf 0;have kf1:=kf 1;have kf2:=kf 2;have kf3:=kf 3;have HG:Hid (suT L S=some T∧FrR R T.tp∧∀wx,wx=putK w1 (w.heap.size+1) ⟨S.r,T.s.p,T.s.b,T.s.l⟩→AtK wx (w.heap.size+1) ⟨S.r,T.s.p,T.s.b,T.s.l⟩∧PWA wx p d F' D0 L (mkR R T.tp) (pcs++T.pc) ts∧(pcs++T.pc).length≤20*cnt (mkR R T.tp)∧Step F F' w wx∧wx.heap[w.heap.size]?=some (.cells (spC' S) 28 (0,0))):=⟨g1,g2,g4⟩;unfold c4V;simp only;clear hE HON g1 g2 g3 g4 kf hlf hin;go_wp2_with fail
     go_meet
     case rel=>exact ⟨T,F',HG.out.1,HG.out.2.1,HG.out.2.2 _ rfl⟩
    ·have HD:Hid (TrE w p d F D0 L R pcs ts S (thrA 8) w1):=hE2;unfold thrA at HD ⊢;clear hE HON hE2 hlf hin;go_wp2;exact ⟨rfl,HD.out⟩
    ·have HD:Hid (TrE w p d F D0 L R pcs ts S (thrA 7) w1):=hE2;unfold thrA at HD ⊢;clear hE HON hE2 hlf hin;go_wp2;exact ⟨rfl,HD.out⟩
  case rest=>
   obtain ⟨T,F',HC⟩:=hcut;have hks:=HC.out.2.2.2.2.2.2;have s4:wc.cell? ⟨w.heap.size,4,none⟩=some (.int .i64 S.b):=by rw [cell_of_row wc _ _ _ _ (0,0) hks];rfl
   have s5:wc.cell? ⟨w.heap.size,5,none⟩=some (.int .i64 S.l):=by rw [cell_of_row wc _ _ _ _ (0,0) hks];rfl
   obtain ⟨k0,k1,k2,k3,-⟩:=HC.out.2.2.1.at;simp only at k2 k3;obtain ⟨tb,htb⟩:∃tb,T.s.b=tb:=⟨_,rfl⟩;obtain ⟨tl,htl⟩:∃tl,T.s.l=tl:=⟨_,rfl⟩;rw [htb] at k2;rw [htl] at k3;have HTT:Hid (T.s.b=tb∧T.s.l=tl):=⟨htb,htl⟩;clear hks htb htl k0 k1 hlf hin HON
   have HBad:Hid (¬(tb=S.b∧tl=S.l)→TrE w p d F D0 L R pcs ts S (thrA 8) wc):=fun hne=>by
    have:=HC.out.2.2.2.1.bad (no:=∀T,suT L S=some T→T.s.b=S.b→T.s.l=S.l→¬FrR R T.tp) (fun T' hT' h1 h2 _=>by
     rw [HC.out.1] at hT';cases hT';exact hne ⟨HTT.out.1.symm.trans h1,HTT.out.2.symm.trans h2⟩) HC.out.2.2.2.2.2.1
    rw [mkR_len] at this;exact .inr this
   have hdy:=demand_yes wc;have hdn:=demand_no wc;by_cases q1:tb=S.b
   ·have q1':(tb==S.b)=true:=by simpa using q1
    by_cases q2:tl=S.l
    ·have q2':(tl==S.l)=true:=by simpa using q2
     have HE:Hid (TrE w p d F D0 L R pcs ts S (.returned (.tuple #[])) wc):=.inl ⟨T,F',rfl,HC.out.1,HC.out.2.1,⟨HTT.out.1.trans q1,HTT.out.2.trans q2⟩,HC.out.2.2.2.1,HC.out.2.2.2.2.1,HC.out.2.2.2.2.2.1⟩;clear q1 q2 HBad hdn;go_wp2_with (go_at_call 54;refine hdy.mono ?_;rintro e w' ⟨rfl,rfl⟩)
     go_end0
     exact HE.out
    ·have q2':(tl==S.l)=false:=by simpa using q2
     have HE:Hid (TrE w p d F D0 L R pcs ts S (thrA 8) wc):=HBad.out (fun e=>q2 e.2);unfold thrA at HE hdn;clear q1 q2 HBad hdy;go_wp2_with (go_at_call 54;refine hdn.mono ?_;rintro e w' ⟨rfl,rfl⟩)
     exact ⟨rfl,HE.out⟩
   ·have q1':(tb==S.b)=false:=by simpa using q1
    have HE:Hid (TrE w p d F D0 L R pcs ts S (thrA 8) wc):=HBad.out (fun e=>q1 e.1);unfold thrA at HE hdn;clear q1 HBad hdy;go_wp2_with (go_at_call 54;refine hdn.mono ?_;rintro e w' ⟨rfl,rfl⟩)
    exact ⟨rfl,HE.out⟩
end
theorem text_gotn (a:Option Addr) (cap n:Nat) (w:World) (P:Pg) (k:Nat) (hk:P.count=k) (hk1:1≤k) (hk2:k≤248) (hlen:P.body.length=248) (hbys:Bys P.body)
  (C:∀w1,Below w.heap.size w w1→Calls Tryz.prog 128 #[.agg #[.int .i64 4,.int .i64 0,.int .i64 0,.int .i64 248],.slice a n cap] w1 fun e w'=>∃g c,e=.returned (.tuple #[pgV P g c,.int .i64 0])∧Own w1.heap.size w' (.slice g P.body.length c) P.body∧Below w1.heap.size w1 w') (V:Bool) (hV:nouB (P.body.drop k)=V):
  Calls Tryz.prog 110 #[.slice a n cap] w fun e w'=>∃g c,e=.returned (.tuple #[.slice g (if V then k else 0) c,.int .i64 (if V then 0 else 4)])∧(g=none→c=0)∧Row w' g c (if V then P.body.take k else [])∧(∀k,obl g k→w.heap.size≤k)∧Below w.heap.size w w':=by
 dsimp only [pgV] at C;rw [hlen,hk] at C;have HC:Hid _:=C;clear C hk;go_enter Tryz.func110,Tryz.ntmps110
 go_wp2_with fail
 refine (text_v _).mono ?_;rintro e w1 ⟨rfl,hb⟩;have HB:Hid (Below w.heap.size w w1):=hb;clear hb;go_wp2_with fail
 refine (HC.out _ HB.out).mono ?_;rintro e w2 ⟨g,c,rfl,ho,hb2⟩;have HB2:Hid (Below w.heap.size w w2):=HB.out.trans (hb2.mono HB.out.size);have HR:Hid (Row (w2.alloc (.cells #[.int .i64 P.kind,.int .i64 P.level,.int .i64 k,.slice g 248 c] 127)) g c P.body):=(ho.row' hbys).2.below ((Below.refl _ _).alloc (Nat.le_refl _) _);have HO:Hid (∀k,obl g k→w.heap.size≤k):=fun k hk=>by have:=(World.ownsRow.lt ho k (own_obl hk)).1;have:=HB.out.size;omega
 clear hb2 ho HC;obtain ⟨b,off,hg⟩:=HR.out.some' (by omega);subst hg;have hcap:=HR.out.2.1;have hmx:=HR.out.2.2.1;unfold maxLen at hmx;rw [hlen] at hcap;by_cases hck:c=k
 ·have hk8:k=248:=by omega
  subst hk8;subst hck;have hv:V=true:=by rw [←hV,List.drop_of_length_le (by omega)];rfl
  subst hv;have CN:=noughts_e (some ⟨b,off,none⟩) 0 (w2.alloc (.cells #[.int .i64 P.kind,.int .i64 P.level,.int .i64 248,.slice (some ⟨b,off,none⟩) 248 248] 127));go_wp2_with fail
  refine CN.mono ?_;clear CN;rintro e w3 ⟨rfl,rfl⟩;go_wp2;go_ret2
  exact ⟨some ⟨b,off,none⟩,248,rfl,(fun h=>by cases h),HR.out.take' 248 248 (by omega) (Nat.le_refl _) (by omega),HO.out,HB2.out.alloc HB2.out.size _⟩
 ·have hrd:=HR.out.drop' k (by omega);have CN:=noughts_w _ _ (248-k) _ _ hrd (by rw [List.length_drop,hlen]) V hV;clear hrd;cases V
  ·go_wp2_with fail
   refine CN.mono ?_;clear CN;rintro e w3 ⟨rfl,rfl⟩;go_wp2;go_ret2
   exact ⟨none,0,rfl,fun _=>rfl,row0 _,(fun k ⟨x,e,_⟩=>by cases e),HB2.out.alloc HB2.out.size _⟩
  ·go_wp2_with fail
   refine CN.mono ?_;clear CN;rintro e w3 ⟨rfl,rfl⟩;go_wp2;go_ret2
   exact ⟨some ⟨b,off,none⟩,k,rfl,(fun h=>by cases h),HR.out.take' k k (by omega) (Nat.le_refl _) (by omega),HO.out,HB2.out.alloc HB2.out.size _⟩
theorem text_n (a:Option Addr) (cap n:Nat) (zs:List Int) (w:World) (h:Row w a cap zs) (hn:zs.length=n) (E:Int) (hE:teE zs=E) (L:List Int) (hL:teL zs=L) (m:Nat) (hm:L.length=m):
  Calls Tryz.prog 110 #[.slice a n cap] w fun e w'=>∃g c,e=.returned (.tuple #[.slice g m c,.int .i64 E])∧(g=none→c=0)∧Row w' g c L∧(∀k,obl g k→w.heap.size≤k)∧Below w.heap.size w w':=by
 subst hE hL hm;have C:∀w1,Below w.heap.size w w1→Calls Tryz.prog 128 #[.agg #[.int .i64 4,.int .i64 0,.int .i64 0,.int .i64 248],.slice a n cap] w1 fun e w'=>∃g c,e=.returned (.tuple #[pgV (soP textS zs) g c,.int .i64 (soE textS zs)])∧Own w1.heap.size w' (.slice g (soP textS zs).body.length c) (soP textS zs).body∧Below w1.heap.size w1 w':=fun w1 hb=>sheetOpen_v textS a cap n zs w1 (h.below hb) hn _ rfl _ rfl
 by_cases hs:soE textS zs=0
 ·obtain ⟨ho,hp,hB,hbys,hlen⟩:=so_good_out h.1 hs;rw [hs,hp] at C;obtain ⟨k1,k2,k3⟩:=opB_out hB;obtain ⟨k,hk⟩:=Int.eq_ofNat_of_zero_le (show 0≤(opP zs).count by omega);have hk3:(opP zs).count≤248:=k3.2;have:=text_gotn a cap n w (opP zs) k hk (by omega) (by omega) hlen hbys C _ rfl;cases hv:nouB ((opP zs).body.drop k)
  ·have e1:teE zs=4:=by unfold teE teB;rw [if_pos ho,hB,hk,Int.toNat_natCast,hv];rfl
   have e2:teL zs=[]:=by unfold teL;rw [e1];rfl
   rw [hv] at this;rw [e1,e2];refine this.mono ?_;rintro e w' ⟨g,c,rfl,h1,h2,h9,hb⟩;exact ⟨g,c,rfl,h1,h2,h9,hb⟩
  ·have e1:teE zs=0:=by unfold teE teB;rw [if_pos ho,hB,hk,Int.toNat_natCast,hv];rfl
   have e2:teL zs=(opP zs).body.take k:=by unfold teL;rw [if_pos e1,hk];rfl
   rw [hv] at this;rw [e1,e2];refine this.mono ?_;rintro e w' ⟨g,c,rfl,h1,h2,h9,hb⟩;refine ⟨g,c,?_,h1,h2,h9,hb⟩;rw [List.length_take,hlen,Nat.min_eq_left (by omega)];rfl
 ·have:=text_err a cap n w _ _ C (by simpa using hs)
  have e1:teE zs=soE textS zs:=by
   unfold teE teB soE;unfold soE at hs;by_cases ho:opE zs=0
   ·rw [if_pos ho] at hs;rw [if_pos ho,if_pos ho];cases hB:opB textS (opP zs)
    ·rfl
    ·rw [hB] at hs;exact absurd rfl hs
   ·rw [if_neg ho,if_neg ho]
  have e2:teL zs=[]:=by unfold teL;rw [e1,if_neg hs]
  rw [e1,e2];refine this.mono ?_;rintro e w' ⟨rfl,hb⟩;exact ⟨none,0,rfl,fun _=>rfl,row0 _,(fun k ⟨x,e,_⟩=>by cases e),hb⟩
section
variable {w w':World} {p d gr cr m cP:Nat} {F FD:Nat→Prop} {D0:Dv} {L:List Int} {aP:Option Addr} {R:List Bool} {pcs:List C4} {ts:List (Nat × Value)}
theorem PW.addTx (h:PW w p d F FD D0 L gr cr m aP cP R pcs ts) {w2:World} {n:Nat} {a:Option Addr} {c:Nat} (hg:w.grownBy w2 (some m)) (ht:HeldV w2 m (ts++[(n,.slice a (teL (pageOf L n)).length c)])) (hr:Row w a c (teL (pageOf L n))) (ho:∀k,obl a k→¬F k∧k<w.heap.size):PW w2 p d F FD D0 L gr cr m aP cP R pcs (ts++[(n,.slice a (teL (pageOf L n)).length c)]):=by
 have k:∀g,g<w.heap.size→¬g=m→w2.heap[g]?=w.heap[g]?:=fun g h1 h2=>hg.block g h1 (fun e=>h2 (by simpa using e))
 have kF:∀g,F g→¬g=m→w2.heap[g]?=w.heap[g]?:=fun g h1 h2=>k g (h.lt g h1) h2
 have hs:=hg.size;refine {h with lt:=fun g hg=>Nat.lt_of_lt_of_le (h.lt g hg) hs,dev:=h.dev.keep hs (fun g hg=>kF g (h.fD g hg) (fun e=>h.mD (e▸hg))),cells:=(kF p h.fp h.pm).trans h.cells,rch:=h.rch.kept (kF gr h.fg h.gm),pc:=h.pc.keepO (fun g hg=>kF g (h.fP g hg) (fun e=>h.mP (e▸hg))),tx:=ht,row:=fun x hx=>?_};rcases List.mem_append.1 hx with hx|hx
 ·exact (h.row x hx).keep hs (fun g h1 h2=>⟨k g h2 (fun e=>h1 (e▸h.fm)),h1⟩)
 ·simp only [List.mem_singleton] at hx;subst hx;exact ⟨a,c,rfl,hr.keepO (fun g hg=>k g (ho g hg).2 (fun e=>(ho g hg).1 (e▸h.fm))),fun g hg=>⟨(ho g hg).1,Nat.lt_of_lt_of_le (ho g hg).2 hs⟩⟩
theorem findV_mem {ts:List (Nat × Value)} {k:Int} {v:Value} (h:findV ts k=some v):∃x∈ts,(x.1:Int)=k∧x.2=v:=by
 unfold findV at h;cases hf:ts.find? (fun x=>decide ((x.1:Int)=k)) with
 |none=>rw [hf] at h;cases h
 |some y=>
  rw [hf] at h;simp at h;have:=List.find?_some hf;simp at this;exact ⟨y,List.mem_of_find?_eq_some hf,this,h⟩
def TpE (w:World) (p d:Nat) (F:Nat→Prop) (D0:Dv) (L:List Int) (R:List Bool) (pcs:List C4) (ts:List (Nat × Value)) (n:Nat) (e:Ending) (w':World):Prop:=
 (∃a c ts',e=.returned (.slice a (teL (pageOf L n)).length c)∧teE (pageOf L n)=0∧((findV ts n).isSome=true∨rcB R (n:Int)=true)∧PWA w' p d F D0 L (if (findV ts n).isSome=true then R else R.set n true) pcs ts'∧(∀k,findV ts' k=none↔(findV ts k=none∧¬k=(n:Int)))∧(∀x∈ts',teE (pageOf L x.1)=0)∧ts'.length≤ts.length+1∧Row w' a c (teL (pageOf L n))∧(∀k,obl a k→¬F k∧k<w'.heap.size)∧(a=none→c=0)∧Ch w.heap.size F w w'∧w'.heap[p]?=w.heap[p]?∧∀x∈ts',x∈ts∨∀k,x.2.ownBlock=some k→w.heap.size≤k)∨
 AuBad w F d D0 R.length e w' (¬(teE (pageOf L n)=0∧((findV ts n).isSome=true∨rcB R (n:Int)=true)))
end
end Go.Proofs.YtjllhcifmfhkmaaGreat.Oct
