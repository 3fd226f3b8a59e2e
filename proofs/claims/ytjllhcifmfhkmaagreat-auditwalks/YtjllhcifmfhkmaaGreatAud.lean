/- Part of a proof. -/
import Derived.Test.YtjllhcifmfhkmaaGreatAua
namespace Go.Proofs.YtjllhcifmfhkmaaGreat.Oct
open Go.RowKit
def TreeE (w:World) (p d:Nat) (F:Nat→Prop) (D0:Dv) (L:List Int) (R:List Bool) (pcs:List C4) (ts:List (Nat × Value)) (lv:Nat) (root:Bool) (n:Int) (e:Ending) (w':World):Prop:=
 (∃T F',e=.returned (c4V ⟨n,T.s.p,T.s.b,T.s.l⟩)∧tcT L lv root n=some T∧FrR R T.tp∧PWA w' p d F' D0 L (mkR R T.tp) (pcs++T.pc) ts∧(pcs++T.pc).length≤20*cnt (mkR R T.tp)∧Step F F' w w')∨
 AuBad w F d D0 R.length e w' (∀T,tcT L lv root n=some T→¬FrR R T.tp)
def leastB (root:Bool):Int:=if root then 1 else 10
theorem lf_ok {z:List Int} (hz:Bys z) {root:Bool}:lfB z root=false↔(reE false z=0∧leastB root≤((reL false z).length:Int)):=by
 have h1:reE false z=0→1≤(reL false z).length:=fun e=>by
  obtain ⟨h1,-⟩:=lay_re hz e;obtain ⟨h2,h3,-⟩:=layB_out h1;omega
 unfold lfB leastB;cases root with
 |true=>
  simp;intro e;have:=h1 e;omega
 |false=>
  simp;intro _;omega
def sumC (l:List C4) (k:Nat):Int:=((l.take k).map (·.c)).sum
def sumD (l:List C4) (k:Nat):Int:=((l.take k).map (·.d)).sum
theorem take_c4 {l:List C4} {k:Nat} (hk:k<l.length):l.take (k+1)=l.take k++[l.getD k c40]:=by
 rw [List.take_add_one,List.getElem?_eq_getElem hk,List.getD_eq_getElem?_getD,List.getElem?_eq_getElem hk];rfl
theorem sumC_succ {l:List C4} {k:Nat} (hk:k<l.length):sumC l (k+1)=sumC l k+(l.getD k c40).c:=by unfold sumC;rw [take_c4 hk];simp
theorem sumD_succ {l:List C4} {k:Nat} (hk:k<l.length):sumD l (k+1)=sumD l k+(l.getD k c40).d:=by unfold sumD;rw [take_c4 hk];simp
theorem sum_bd {l:List C4} (h:∀x∈l,okC false x=true):∀k,k≤l.length→(0≤sumC l k∧sumC l k≤248*k)∧(0≤sumD l k∧sumD l k≤248*k):=by
 intro k
 induction k with
 |zero=>intro _;simp [sumC,sumD]
 |succ k ih=>
  intro hk;have:=ih (by omega);have hb:=okC_bd (h _ (getD_mem (show k<l.length by omega)));have hb5:=hb.2.2.2.2 rfl;rw [sumC_succ (by omega),sumD_succ (by omega)];omega
theorem sm3_sum (l:List C4):sm3 l=⟨l.length,sumC l l.length,sumD l l.length⟩:=by unfold sm3 sumC sumD;rw [List.take_length]
structure LpI (w wr:World) (p d:Nat) (F F':Nat→Prop) (D0:Dv) (L:List Int) (R:List Bool) (pcs:List C4) (ts:List (Nat × Value)) (l:List C4) (g:Option Addr) (rb fb k:Nat) (n:Int):Prop where
 pw:PWA wr p d F' D0 L R pcs ts
 f:AtK wr fb ⟨n,l.length,sumC l k,sumD l k⟩
 r:AtK wr rb c40
 row:∀j,j<l.length→∃b off,g=some ⟨b,off,none⟩∧¬F' b∧¬b=fb∧At4 wr b (off+j*4) (l.getD j c40)
 nf:¬F' fb∧w.heap.size≤fb
 nr:¬F' rb∧w.heap.size≤rb
 st:Step F F' w wr
 tf:∀x∈ts,∀a n c,x.2=.slice a n c→¬obl a fb∧¬obl a rb
 fr:¬fb=rb
theorem LpI.next {w wr:World} {p d:Nat} {F F':Nat→Prop} {D0:Dv} {L:List Int} {R:List Bool} {pcs:List C4} {ts:List (Nat × Value)} {l:List C4} {g:Option Addr} {rb fb k:Nat} {n:Int} (h:LpI w wr p d F F' D0 L R pcs ts l g rb fb k n) (hk:k<l.length) (o:Obj):
  LpI w (((wr.setCell ⟨fb,2,none⟩ (.int .i64 (sumC l k+(l.getD k c40).c))).setCell ⟨fb,3,none⟩ (.int .i64 (sumD l k+(l.getD k c40).d))).alloc o) p d F F' D0 L R pcs ts l g rb fb (k+1) n:=by
 have hfl:=h.f.lt;have hrl:=h.r.lt;have hc:Ch wr.heap.size (fun x=>x=fb) wr ((wr.setCell ⟨fb,2,none⟩ (.int .i64 (sumC l k+(l.getD k c40).c))).setCell ⟨fb,3,none⟩ (.int .i64 (sumD l k+(l.getD k c40).d))):=((Ch.refl _ (fun x=>x=fb) wr).setCell (p:=⟨fb,2,none⟩) (.inr rfl) _).setCell (p:=⟨fb,3,none⟩) (.inr rfl) _;have hf:=(h.f.set2 (sumC l k+(l.getD k c40).c)).set3 (sumD l k+(l.getD k c40).d);obtain ⟨w1,hw1⟩:∃w1,(wr.setCell ⟨fb,2,none⟩ (.int .i64 (sumC l k+(l.getD k c40).c))).setCell ⟨fb,3,none⟩ (.int .i64 (sumD l k+(l.getD k c40).d))=w1:=⟨_,rfl⟩;rw [hw1] at hc hf ⊢;have hsz:=hc.size;have hb:=(Below.refl w1.heap.size w1).alloc (Nat.le_refl _) o;refine {pw:=(h.pw.other hc h.nf.1 (fun x hx a n c e=>(h.tf x hx a n c e).1)).below hb,f:=?_,r:=(h.r.keep (hc.block rb hrl (fun e=>h.fr e.symm))).keep (hb.block rb (by omega)),row:=fun j hj=>?_,nf:=h.nf,nr:=h.nr,st:=?_,tf:=h.tf,fr:=h.fr}
 ·rw [sumC_succ hk,sumD_succ hk];exact hf.keep (hb.block fb (by omega))
 ·obtain ⟨b,off,e1,e2,e3,a4⟩:=h.row j hj;exact ⟨b,off,e1,e2,e3,(a4.same (hc.block b a4.lt e3)).same (hb.block b (by have:=a4.lt;omega))⟩
 ·have h1:Step F F' w w1:=⟨h.st.1.trans (hc.mono h.st.1.size (fun k hk e=>by have:=h.nf.2;omega)),h.st.2⟩;exact h1.trans (Step.ofB hb)
theorem LpI.done {w wr:World} {p d:Nat} {F F':Nat→Prop} {D0:Dv} {L:List Int} {R:List Bool} {pcs:List C4} {ts:List (Nat × Value)} {l:List C4} {g:Option Addr} {rb fb k:Nat} {n:Int} (h:LpI w wr p d F F' D0 L R pcs ts l g rb fb k n) (q:C4):
  AtK (putK wr rb q) rb q∧PWA (putK wr rb q) p d F' D0 L R pcs ts∧Step F F' w (putK wr rb q):=by
 have hc:=putK_ch wr rb q;exact ⟨h.r.putK q,h.pw.other hc h.nr.1 (fun x hx a n c e=>(h.tf x hx a n c e).2),h.st.1.trans (hc.mono h.st.1.size (fun k hk e=>by have:=h.nr.2;omega)),h.st.2⟩
section
variable {w w':World} {p d:Nat} {F:Nat→Prop} {D0:Dv} {L:List Int} {R:List Bool} {pcs:List C4} {ts:List (Nat × Value)}
theorem AuBad.is {w0:World} {N:Nat} {e:Ending} {no:Prop} (h:AuBad w0 F d D0 N e w' no):e=thrA 8∨e=thrA 7:=by
 rcases h with ⟨rfl,_⟩|⟨rfl,_⟩
 ·exact .inl rfl
 ·exact .inr rfl
theorem PWA.tlt (h:PWA w p d F D0 L R pcs ts):∀x∈ts,∀a n c,x.2=.slice a n c→∀k,obl a k→k<w.heap.size:=by
 obtain ⟨FD,gr,cr,m,aP,cP,h⟩:=h;intro x hx a n c e k hk;obtain ⟨a',c',e',h1,h2⟩:=h.row x hx;rw [e] at e';simp only [Value.slice.injEq] at e';obtain ⟨rfl,-,-⟩:=e';exact (h2 k hk).2
set_option maxHeartbeats 4000000 in
set_option maxRecDepth 20000 in
theorem leaf_p (h:PWA w p d F D0 L R pcs ts) (n:Int) (hn:2≤n∧n≤4096) (root:Bool) (hp:pcs.length≤20*cnt R) (least:Int) (hlst:leastB root=least):
  Calls Tryz.prog 87 #[.pointer (some ⟨p,0,none⟩),.int .i64 n,.int .i64 least] w fun e w'=>TreeE w p d F D0 L R pcs ts 0 root n e w':=by
 have hrn:=h.rn;have hb0:Below w.heap.size w (w.alloc (.cells #[.int .i64 0,.int .i64 0,.int .i64 0,.int .i64 0] 130)):=(Below.refl _ w).alloc (Nat.le_refl _) _;have h0:=h.below hb0;have hrc:=reach_any h0 n (by omega);have HB0:Hid (Step F F w (w.alloc (.cells #[.int .i64 0,.int .i64 0,.int .i64 0,.int .i64 0] 130))∧AtK (w.alloc (.cells #[.int .i64 0,.int .i64 0,.int .i64 0,.int .i64 0] 130)) w.heap.size c40∧¬F w.heap.size∧(∀x∈ts,∀a n c,x.2=.slice a n c→∀k,obl a k→k<w.heap.size)):=⟨Step.ofB hb0,heap_alloc_new w _,fun e=>by have:=h.lt _ e;omega,h.tlt⟩;have HR:Hid (R.length=D0.n∧R.length≤4096∧8≤R.length∧L.length=256*R.length∧Bys L):=hrn;have HP:Hid (pcs.length≤20*cnt R∧leastB root=least∧(2≤n∧n≤4096)):=⟨hp,hlst,hn⟩;have HPG:Hid (pgN L=R.length):=by show _=_;unfold pgN;rw [hrn.2.2.2.1];omega
 obtain ⟨w0,hw0⟩:∃w0,w.alloc (.cells #[.int .i64 0,.int .i64 0,.int .i64 0,.int .i64 0] 130)=w0:=⟨_,rfl⟩;have hs0:w0.heap.size=w.heap.size+1:=by rw [←hw0];simp
 have HS0:Hid (w0.heap.size=w.heap.size+1):=hs0;rw [hw0] at hrc HB0;have hl1: -9223372036854775808≤least∧least≤100:=by rw [←hlst];unfold leastB;split<;>omega
 clear h h0 hb0 hrn hp hlst hs0;go_enter Tryz.func87,Tryz.ntmps87
 go_wp2_with fail
 refine hrc.mono ?_;clear hrc hw0;rintro e w1 (⟨g,c,rfl,hy,ho,hw1,hc1,-⟩|hbad);rotate_left
 ·have HE:Hid (TreeE w p d F D0 L R pcs ts 0 root n e w1):=.inr (hbad.mono HB0.out.1 (fun hno T hT hF=>by
   unfold tcT at hT;split at hT
   ·next hc=>
    simp only [Option.some.injEq] at hT;subst hT;rw [Bool.and_eq_true] at hc;have hin:=inR_out hc.1;rw [HPG.out] at hin;rw [(fr_one (by omega) hin.2).1 hF] at hno;cases hno
   ·cases hT))
  rcases hbad.is with rfl|rfl
  ·unfold thrA at HE ⊢;clear hbad;go_wp2;exact ⟨rfl,HE.out⟩
  ·unfold thrA at HE ⊢;clear hbad;go_wp2;exact ⟨rfl,HE.out⟩
 ·have hzb:Bys (pageOf L n.toNat):=page_bys HR.out.2.2.2.2 _
  have hin:inR (pgN L) n=true:=by
   have:=rcB_out hy;unfold inR;rw [HPG.out,decide_eq_true (show 2≤n by omega),decide_eq_true this.2.1];rfl
  obtain ⟨z,hz⟩:∃z,pageOf L n.toNat=z:=⟨_,rfl⟩;rw [hz] at ho hzb;have hpl:z.length=256:=((ho.row' hzb).1).symm;obtain ⟨E,hE⟩:∃E,reE false z=E:=⟨_,rfl⟩;obtain ⟨l,hl⟩:∃l,reL false z=l:=⟨_,rfl⟩;have hlb:=reL_bd (t:=false) hzb;rw [hl] at hlb;obtain ⟨m,hm⟩:∃m,l.length=m:=⟨_,rfl⟩;have hm20:m≤20:=by omega
  have hpc:=pieces_v (some ⟨g,0,none⟩) c 256 z w1 (ho.row' hzb).2 hpl E hE l hl m hm
  have HT:Hid (∀T,tcT L 0 root n=some T↔(lfB z root=false∧T=⟨[n.toNat],l,sm3 l⟩)):=fun T=>by
   unfold tcT;rw [hin,hz,hl];cases lfB z root<;>simp [eq_comm]
  have HLF:Hid (lfB z root=false↔(E=0∧least≤(m:Int))):=by
   show _↔_;rw [lf_ok hzb,hE,hl,hm,HP.out.2.1]
  have HL:Hid (l.length=m∧∀x∈l,okC false x=true):=⟨hm,hlb.2⟩
  have H1:Hid (PWA w1 p d F D0 L (R.set n.toNat true) pcs ts∧Step F F w w1∧AtK w1 w.heap.size c40∧w.heap.size<w1.heap.size):=by
   have hlt:=HB0.out.2.1.lt;refine ⟨hw1,HB0.out.1.trans (Step.of hc1),HB0.out.2.1.keep (hc1.block _ hlt HB0.out.2.2.1),?_⟩;have:=hc1.size;omega
  have HY:Hid (rcB R n=true):=hy;have HF1:Hid (∀k,F k→k<w1.heap.size):=hw1.lt;clear hw1 hc1 ho hzb hin hz hpl hE hl hlb hm hy hn;go_wp2_with fail
  refine hpc.mono ?_;clear hpc;rintro e w2 ⟨gl,cl,rfl,hol,hb2⟩
  have H2:Hid (PWA w2 p d F D0 L (R.set n.toNat true) pcs ts∧Step F F w w2∧AtK w2 w.heap.size c40∧RowC w2 gl cl l∧(∀k,obl gl k→w1.heap.size≤k∧k<w2.heap.size)∧w.heap.size<w1.heap.size):=
   ⟨H1.out.1.below hb2,H1.out.2.1.trans (Step.ofB hb2),H1.out.2.2.1.keep (hb2.block _ H1.out.2.2.1.lt),(OwnC.row' hol (fun x hx=>wfC_ok (HL.out.2 x hx))).2.1,fun k hk=>World.ownsRow.lt hol k (own_obl hk),H1.out.2.2.2⟩
  have hdy:=demand_yes w2;have hdn:=demand_no w2;clear hol hb2;by_cases hok:E=0∧least≤(m:Int)
  ·obtain ⟨rfl,hle⟩:=hok;clear hdn H1
   have HT2:Hid (tcT L 0 root n=some ⟨[n.toNat],l,sm3 l⟩∧0<m):=by
    refine ⟨(HT.out _).2 ⟨HLF.out.2 ⟨rfl,hle⟩,rfl⟩,?_⟩;have:=HP.out.2.1;unfold leastB at this;split at this<;>omega
   obtain ⟨FD,gr,cr,mp,aP,cP,hPW⟩:=H2.out.1;obtain ⟨c0,c1,c2,c3,fz⟩:=hPW.at;obtain ⟨bl,ol,rfl⟩:=H2.out.2.2.2.1.some' (by rw [HL.out.1];exact HT2.out.2);obtain ⟨i0,hi0,hz0,hz1,hz2⟩:=info_parts infoP;have HPW:Hid (PW w2 p d F FD D0 L gr cr mp aP cP (R.set n.toNat true) pcs ts):=hPW;have hcnt:pcs.length≤81920:=by have:=HP.out.1;have:=cnt_le R;have:=HR.out.2.1;omega
   obtain ⟨np,hnp⟩:∃np,pcs.length=np:=⟨_,rfl⟩;rw [hnp] at c2 hcnt;have HNP:Hid (pcs.length=np):=hnp;clear hPW c0 c1 c3 fz hnp;go_wp2_with (first|(go_at_call 54;refine hdy.mono ?_;rintro e w' ⟨rfl,rfl⟩)|(at_builtin;refine wpList_append_lies w2 rfl _ _ 29 rfl 0 72 i0 zero4 4 32 Tryz.underlying29 hi0 hz0 hz1 hz2 rfl (by decide) (.slice aP np cP) np (pcs.flatMap vals4) rfl (by rw [←HNP.out];exact HPW.out.pc) ⟨bl,ol,none⟩ m cl (l.flatMap vals4) rfl (by rw [vals_len,HL.out.1]) (rowC_news H2.out.2.2.2.1) (vals_one l) HT2.out.2 (by unfold maxLen;omega) (by omega) (Nat.zero_le _) _ rfl ?_;intro g2 cap2 w3 ho3 hgr3 hat3 hlt3;have hadd:=HPW.out.addPcs l (by rw [HNP.out,HL.out.1];exact ho3) (by rw [HNP.out];exact hgr3) (by rw [HNP.out];exact hat3) hlt3;rw [HNP.out,HL.out.1] at hadd;obtain ⟨⟨q1,q2⟩,q3,q4⟩:=hadd;have H3:Hid _:=And.intro q3 q4;clear q3 q4 ho3 hgr3 hat3 hlt3))
   have HI0:Hid (LpI w ((w3.setCell ⟨p,2,none⟩ (.slice (some ⟨g2,0,none⟩) (np+m) cap2)).alloc (.cells #[.int .i64 n,.int .i64 (m:Int),.int .i64 0,.int .i64 0] 130)) p d F (fun k=>F k∨k=g2) D0 L (R.set n.toNat true) (pcs++l) ts l (some ⟨bl,ol,none⟩) w.heap.size w3.heap.size 0 n):=by
    obtain ⟨h3,st3⟩:=H3.out;have hbl:=(Below.refl _ (w3.setCell ⟨p,2,none⟩ (.slice (some ⟨g2,0,none⟩) (np+m) cap2))).alloc (Nat.le_refl _) (.cells #[.int .i64 n,.int .i64 (m:Int),.int .i64 0,.int .i64 0] 130);have hs3:(w3.setCell ⟨p,2,none⟩ (.slice (some ⟨g2,0,none⟩) (np+m) cap2)).heap.size=w3.heap.size:=size_setCell ..;have hpw:PWA (w3.setCell ⟨p,2,none⟩ (.slice (some ⟨g2,0,none⟩) (np+m) cap2)) p d (fun k=>F k∨k=g2) D0 L (R.set n.toNat true) (pcs++l) ts:=⟨_,_,_,_,_,_,h3⟩;have hst:=H2.out.2.1.trans st3;have hsz:=hst.1.size;rw [hs3] at hsz;have hlt2:=H2.out.2.2.1.lt;have hs23:=st3.1.size;rw [hs3] at hs23;have hrb:¬(F w.heap.size∨w.heap.size=g2):=st3.notin hlt2 HB0.out.2.2.1;refine {pw:=hpw.below hbl,f:=?_,r:=(H2.out.2.2.1.keep (st3.1.block _ hlt2 HB0.out.2.2.1)).keep (hbl.block _ (by rw [hs3];omega)),row:=fun j hj=>?_,nf:=⟨fun e=>?_,hsz⟩,nr:=⟨hrb,Nat.le_refl _⟩,st:=hst.trans (Step.ofB hbl),tf:=fun x hx a n c e=>⟨fun ho=>?_,fun ho=>?_⟩,fr:=by omega}
    ·have:=heap_alloc_new (w3.setCell ⟨p,2,none⟩ (.slice (some ⟨g2,0,none⟩) (np+m) cap2)) (.cells #[.int .i64 n,.int .i64 (m:Int),.int .i64 0,.int .i64 0] 130);rw [hs3] at this;unfold AtK;rw [HL.out.1];exact this
    ·have hro:=H2.out.2.2.2.1.cells j hj;have hbn:=H2.out.2.2.2.2.1 bl ⟨_,rfl,rfl⟩;have hnF:¬F bl:=fun e=>by have:=HF1.out bl e;omega
     exact ⟨bl,ol,rfl,st3.notin hbn.2 hnF,by omega,(hro.same (st3.1.block bl hbn.2 hnF)).same (hbl.block bl (by rw [hs3];omega))⟩
    ·have:=hpw.lt _ e;omega
    ·have:=HB0.out.2.2.2 x hx a n c e _ ho;omega
    ·have:=HB0.out.2.2.2 x hx a n c e _ ho;omega
   obtain ⟨w4,hw4⟩:∃w4,((w3.setCell ⟨p,2,none⟩ (.slice (some ⟨g2,0,none⟩) (np+m) cap2)).alloc (.cells #[.int .i64 n,.int .i64 (m:Int),.int .i64 0,.int .i64 0] 130))=w4:=⟨_,rfl⟩;obtain ⟨fb,hfb⟩:∃fb,w3.heap.size=fb:=⟨_,rfl⟩;rw [hw4,hfb] at HI0;rw [hw4,hfb];clear hw4 hfb H3 H2 q1 q2 c2 hdy HPW hi0 hz0 hz1 hz2;go_loopg [43] m (fun gh i wr=>∃k:Nat,k≤m∧gh=m-k∧i=.int .i64 k∧Hid (LpI w wr p d F (fun k=>F k∨k=g2) D0 L (R.set n.toNat true) (pcs++l) ts l (some ⟨bl,ol,none⟩) w.heap.size fb k n))
   case atStart=>exact ⟨0,Nat.zero_le _,rfl,rfl,HI0.out⟩
   case round=>
    clear HI0;obtain ⟨k,hk,hgk,rfl,HI⟩:=hrel;have HGK:Hid (gk=m-k):=hgk;clear hgk;obtain ⟨f0,f1,f2,f3,ff⟩:=HI.out.f.at;have ff2:=ff 2;have ff3:=ff 3;have hsb:=sum_bd HL.out.2 k (by rw [HL.out.1];exact hk);obtain ⟨sc,hsc⟩:∃sc,sumC l k=sc:=⟨_,rfl⟩;obtain ⟨sd,hsd⟩:∃sd,sumD l k=sd:=⟨_,rfl⟩;have HSS:Hid (sumC l k=sc∧sumD l k=sd):=⟨hsc,hsd⟩;simp only [hsc,hsd] at f0 f1 f2 f3 hsb;rw [HL.out.1] at f1;have lfb:=HI.out.f.lt;clear hsc hsd ff;by_cases hlt:k<m
    ·have hkl:k<l.length:=by rw [HL.out.1];exact hlt
     obtain ⟨b,off,e1,-,e3,a4⟩:=HI.out.row k hkl;cases e1;have hob:=okC_bd (HL.out.2 _ (getD_mem hkl));have hob5:=hob.2.2.2.2 rfl;have HNX:Hid (∀o,LpI w _ p d F (fun k=>F k∨k=g2) D0 L (R.set n.toNat true) (pcs++l) ts l (some ⟨bl,ol,none⟩) w.heap.size fb (k+1) n):=fun o=>HI.out.next hkl o
     obtain ⟨x,hx⟩:∃x,l.getD k c40=x:=⟨_,rfl⟩;rw [hx] at a4 hob hob5 HNX;obtain ⟨xa,xb,xc,xd⟩:=x;obtain ⟨a40,a41,a42,a43⟩:=a4;simp only at a40 a41 a42 a43 hob hob5 HNX;rw [HSS.out.1,HSS.out.2] at HNX;clear hx HI;go_wp2;go_roundg (m-(k+1))
     case rel=>exact ⟨k+1,by omega,rfl,by go_num,HNX.out _⟩
     case measure=>have:=HGK.out;omega
    ·have hkm:k=m:=by omega
     subst hkm;obtain ⟨r0,r1,r2,r3,rf⟩:=HI.out.r.at;obtain ⟨y1,y2,y3⟩:=HI.out.done ⟨n,(k:Int),sc,sd⟩
     have HD:Hid (AtK (putK wr w.heap.size ⟨n,(k:Int),sc,sd⟩) w.heap.size ⟨n,(k:Int),sc,sd⟩∧TreeE w p d F D0 L R pcs ts 0 root n (.returned (c4V ⟨n,(k:Int),sc,sd⟩)) (putK wr w.heap.size ⟨n,(k:Int),sc,sd⟩)):=by
      have hlk:=HL.out.1;have hs3:sm3 l=⟨(k:Int),sc,sd⟩:=by rw [sm3_sum,hlk,HSS.out.1,HSS.out.2]
      have hrc:=rcB_out HY.out;refine ⟨y1,.inl ⟨⟨[n.toNat],l,sm3 l⟩,_,by rw [hs3],HT2.out.1,(fr_one (by omega) hrc.2.1).2 HY.out,?_,?_,y3⟩⟩
      ·rw [←set_mkR];exact y2
      ·rw [←set_mkR,cnt_set (by omega) hrc.2.2,List.length_append,hlk];have:=HP.out.1;omega
     have rf0:=rf 0;have rf1:=rf 1;have rf2:=rf 2;have rf3:=rf 3;have hfr:=HI.out.fr;clear HI rf y1 y2 y3;go_wp2;refine bodyPost_ret (results_cell_row rfl _ _ w.heap.size _ #[.int .i64 n,.int .i64 (k:Int),.int .i64 sc,.int .i64 sd] (0,0) _ rfl HD.out.1 Tryz.underlying130 rfl (by kernel_rfl)) rfl ?_;exact HD.out.2
  ·have HE:Hid (TreeE w p d F D0 L R pcs ts 0 root n (thrA 8) w2):=by
    have:=H2.out.1.bad (no:=∀T,tcT L 0 root n=some T→¬FrR R T.tp) (fun T hT=>by have:=((HT.out T).1 hT).1;exact absurd (HLF.out.1 this) hok) H2.out.2.1;rw [List.length_set] at this;exact .inr this
   unfold thrA at HE;unfold thrA at hdn;by_cases hE0:E=0
   ·subst hE0;have hle:(m:Int)<least:=by omega
    have hld:decide (least≤(m:Int))=false:=by rw [decide_eq_false_iff_not];omega
    clear hok hdy H1 H2;go_wp2_with (go_at_call 54;refine hdn.mono ?_;rintro e w' ⟨rfl,rfl⟩)
    exact ⟨rfl,HE.out⟩
   ·have hE1:(E==0)=false:=by simpa using hE0
    clear hok hdy H1 H2 hE0;go_wp2_with (go_at_call 54;refine hdn.mono ?_;rintro e w' ⟨rfl,rfl⟩)
    exact ⟨rfl,HE.out⟩
end
theorem tcA_0 (x:Tc):tcA tc0 x=x:=by cases x;simp [tcA,tc0,addS_0]
theorem tcA_00 (x:Tc):tcA x tc0=x:=by cases x;simp [tcA,tc0,addS_1]
theorem tcA_a (x y z:Tc):tcA (tcA x y) z=tcA x (tcA y z):=by simp [tcA,addS_a]
theorem tcK_cons {f:Int→Option Tc} {k:C4} {l:List C4} {V:Tc}:tcK f (k::l)=some V↔∃x y,f k.a=some x∧kdQ x.s k=true∧tcK f l=some y∧V=tcA x y:=by
 constructor
 ·intro h;unfold tcK at h;split at h
  ·cases h
  ·next x hx=>
   split at h
   ·next hq=>
    split at h
    ·cases h
    ·next y hy=>
     simp only [Option.some.injEq] at h;exact ⟨x,y,hx,hq,hy,h.symm⟩
   ·cases h
 ·rintro ⟨x,y,h1,h2,h3,rfl⟩;unfold tcK;rw [h1];simp only [h2,if_true,h3]
theorem tcK_app {f:Int→Option Tc}:∀(a b:List C4) (V:Tc),tcK f (a++b)=some V↔∃x y,tcK f a=some x∧tcK f b=some y∧V=tcA x y:=by
 intro a
 induction a with
 |nil=>
  intro b V;constructor
  ·intro h;exact ⟨tc0,V,rfl,h,(tcA_0 V).symm⟩
  ·rintro ⟨x,y,h1,h2,rfl⟩;have:x=tc0:=(Option.some.inj h1).symm;subst this;rw [tcA_0];exact h2
 |cons k a ih=>
  intro b V;rw [List.cons_append,tcK_cons];constructor
  ·rintro ⟨x,y,h1,h2,h3,rfl⟩;obtain ⟨u,v,g1,g2,rfl⟩:=(ih b y).1 h3;exact ⟨tcA x u,v,tcK_cons.2 ⟨x,u,h1,h2,g1,rfl⟩,g2,(tcA_a x u v).symm⟩
  ·rintro ⟨u,v,g1,g2,rfl⟩;obtain ⟨x,y,h1,h2,h3,rfl⟩:=tcK_cons.1 g1;exact ⟨x,tcA y v,h1,h2,(ih b _).2 ⟨y,v,h3,g2,rfl⟩,tcA_a x y v⟩
theorem tcK_one {f:Int→Option Tc} {k:C4} {V:Tc}:tcK f [k]=some V↔f k.a=some V∧kdQ V.s k=true:=by
 rw [tcK_cons];constructor
 ·rintro ⟨x,y,h1,h2,h3,rfl⟩;have:y=tc0:=(Option.some.inj h3).symm;subst this;rw [tcA_00];exact ⟨h1,h2⟩
 ·rintro ⟨h1,h2⟩;exact ⟨V,tc0,h1,h2,rfl,(tcA_00 V).symm⟩
theorem tcK_next {f:Int→Option Tc} {l:List C4} {k:Nat} (hk:k<l.length) {T U:Tc} (hT:tcK f (l.take k)=some T) (hU:f (l.getD k c40).a=some U) (hq:kdQ U.s (l.getD k c40)=true):tcK f (l.take (k+1))=some (tcA T U):=by
 rw [take_c4 hk];exact (tcK_app _ _ _).2 ⟨T,U,hT,tcK_one.2 ⟨hU,hq⟩,rfl⟩
theorem tcK_whole {f:Int→Option Tc} {l:List C4} {k:Nat} (hk:k<l.length) {T V:Tc} (hT:tcK f (l.take k)=some T) (hV:tcK f l=some V):∃U Z,f (l.getD k c40).a=some U∧kdQ U.s (l.getD k c40)=true∧tcK f (l.drop (k+1))=some Z∧V=tcA (tcA T U) Z:=by
 have e:l=l.take (k+1)++l.drop (k+1):=(List.take_append_drop _ _).symm;rw [e] at hV;obtain ⟨x,Z,h1,h2,rfl⟩:=(tcK_app _ _ _).1 hV;rw [take_c4 hk] at h1;obtain ⟨x1,x2,g1,g2,rfl⟩:=(tcK_app _ _ _).1 h1;rw [hT] at g1;cases g1;obtain ⟨g3,g4⟩:=tcK_one.1 g2;exact ⟨x2,Z,g3,g4,h2,rfl⟩
def sum3 (l:List C4) (k:Nat):S3:=⟨((l.take k).map (·.b)).sum,((l.take k).map (·.c)).sum,((l.take k).map (·.d)).sum⟩
theorem sum3_succ {l:List C4} {k:Nat} (hk:k<l.length):sum3 l (k+1)=⟨(sum3 l k).p+(l.getD k c40).b,(sum3 l k).b+(l.getD k c40).c,(sum3 l k).l+(l.getD k c40).d⟩:=by unfold sum3;rw [take_c4 hk];simp
theorem sum3_bd {l:List C4} (h:∀x∈l,okC true x=true):∀k,k≤l.length→S3b (sum3 l k) (1048576*k):=by
 intro k
 induction k with
 |zero=>intro _;simp [sum3,S3b]
 |succ k ih=>
  intro hk;obtain ⟨h1,h2,h3⟩:=ih (by omega);have hb:=okC_bd (h _ (getD_mem (show k<l.length by omega)));rw [sum3_succ (by omega)];refine ⟨?_,?_,?_⟩<;>(simp only;omega)
theorem tcK_sum {f:Int→Option Tc}:∀(l:List C4) (T:Tc),tcK f l=some T→T.s=sum3 l l.length:=by
 intro l
 induction l with
 |nil=>
  intro T h;have:T=tc0:=(Option.some.inj h).symm;subst this;rfl
 |cons k l ih=>
  intro T h;obtain ⟨x,y,h1,h2,h3,rfl⟩:=tcK_cons.1 h;have hy:=ih y h3;unfold kdQ at h2;simp only [Bool.and_eq_true,beq_iff_eq] at h2;simp only [tcA,hy,addS,sum3,List.take_length,List.map_cons,List.sum_cons,h2.1,h2.2.1,h2.2.2]
def BelC (p d:Nat) (D0:Dv) (L:List Int) (ts:List (Nat × Value)) (lv:Nat):Prop:=∀(w:World) (F:Nat→Prop) (R:List Bool) (pcs:List C4) (n:Int),PWA w p d F D0 L R pcs ts→(2≤n∧n≤4096)→pcs.length≤20*cnt R→
 Calls Tryz.prog 109 #[.pointer (some ⟨p,0,none⟩),.int .i64 n,.int .i64 ((lv+1:Nat):Int)] w fun e w'=>TreeE w p d F D0 L R pcs ts lv false n e w'
theorem TreeE.on {w w0 w1:World} {p d:Nat} {F:Nat→Prop} {D0:Dv} {L:List Int} {R:List Bool} {pcs:List C4} {ts:List (Nat × Value)} {lv:Nat} {root:Bool} {n:Int} {e:Ending} (h:TreeE w0 p d F D0 L R pcs ts lv root n e w1) (hb:Step F F w w0) (hnF:¬F w.heap.size) (hk:AtK w0 w.heap.size c40) (ht:∀x∈ts,∀a n c,x.2=.slice a n c→∀k,obl a k→k<w.heap.size):
  (∃q:C4,e=.returned (c4V q)∧AtK w1 w.heap.size c40∧AtK (putK w1 w.heap.size q) w.heap.size q∧TreeE w p d F D0 L R pcs ts lv root n (.returned (c4V q)) (putK w1 w.heap.size q))∨((e=thrA 8∨e=thrA 7)∧TreeE w p d F D0 L R pcs ts lv root n e w1):=by
 rcases h with ⟨T,F',rfl,h1,h2,h3,h4,h5⟩|h
 ·have hlt:=hk.lt;have hk1:=hk.keep (h5.1.block _ hlt hnF);have hc:=putK_ch w1 w.heap.size ⟨n,T.s.p,T.s.b,T.s.l⟩;have hst:=hb.trans h5;exact .inl ⟨⟨n,T.s.p,T.s.b,T.s.l⟩,rfl,hk1,hk1.putK _,.inl ⟨T,F',rfl,h1,h2,h3.other hc (h5.notin hlt hnF) (fun x hx a m c e ho=>by have:=ht x hx a m c e _ ho;omega),h4,hst.1.trans (hc.mono hst.1.size (fun k hk e=>by omega)),hst.2⟩⟩
 ·exact .inr ⟨h.is,.inr (h.mono hb (fun x=>x))⟩
structure KpI (w wr:World) (p d:Nat) (F F':Nat→Prop) (D0:Dv) (L:List Int) (R:List Bool) (pcs:List C4) (ts:List (Nat × Value)) (l:List C4) (g:Option Addr) (rb fb k:Nat) (n:Int) (lv:Nat) (T:Tc):Prop where
 pw:PWA wr p d F' D0 L (mkR R T.tp) (pcs++T.pc) ts
 pl:(pcs++T.pc).length≤20*cnt (mkR R T.tp)
 t:tcK (tcT L lv false) (l.take k)=some T
 fr:FrR R T.tp
 f:AtK wr fb ⟨n,(sum3 l k).p,(sum3 l k).b,(sum3 l k).l⟩
 r:AtK wr rb c40
 row:∀j,j<l.length→∃b off,g=some ⟨b,off,none⟩∧¬F' b∧¬b=fb∧At4 wr b (off+j*4) (l.getD j c40)
 nf:¬F' fb∧w.heap.size≤fb
 nr:¬F' rb∧w.heap.size≤rb
 st:Step F F' w wr
 tf:∀x∈ts,∀a n c,x.2=.slice a n c→¬obl a fb∧¬obl a rb
 nfr:¬fb=rb
section
variable {w wr:World} {p d:Nat} {F F' F5:Nat→Prop} {D0:Dv} {L:List Int} {R:List Bool} {pcs:List C4} {ts:List (Nat × Value)} {l:List C4} {g:Option Addr} {rb fb k lv:Nat} {n:Int} {T U:Tc}
def putF (w:World) (fb:Nat) (s x:S3):World:=((w.setCell ⟨fb,1,none⟩ (.int .i64 (s.p+x.p))).setCell ⟨fb,2,none⟩ (.int .i64 (s.b+x.b))).setCell ⟨fb,3,none⟩ (.int .i64 (s.l+x.l))
theorem KpI.next (h:KpI w wr p d F F' D0 L R pcs ts l g rb fb k n lv T) (hL:Bys L) (hN:pgN L=R.length) (hk:k<l.length) {w1 w5:World} (hb:Below wr.heap.size wr w1) (hU:tcT L lv false (l.getD k c40).a=some U) (hq:kdQ U.s (l.getD k c40)=true) (hfr:FrR (mkR R T.tp) U.tp) (h5:PWA w5 p d F5 D0 L (mkR (mkR R T.tp) U.tp) (pcs++T.pc++U.pc) ts) (hp5:(pcs++T.pc++U.pc).length≤20*cnt (mkR (mkR R T.tp) U.tp)) (st:Step F' F5 w1 w5):
  AtK w5 fb ⟨n,(sum3 l k).p,(sum3 l k).b,(sum3 l k).l⟩∧KpI w (putF w5 fb (sum3 l k) ⟨(l.getD k c40).b,(l.getD k c40).c,(l.getD k c40).d⟩) p d F F5 D0 L R pcs ts l g rb fb (k+1) n lv (tcA T U):=by
 have st':Step F' F5 wr w5:=(Step.ofB (F:=F') hb).trans st;have hfl:=h.f.lt;have hrl:=h.r.lt;have hsz:=st'.1.size;have hf5:=h.f.keep (st'.1.block fb hfl h.nf.1);have hc:Ch w5.heap.size (fun x=>x=fb) w5 (putF w5 fb (sum3 l k) ⟨(l.getD k c40).b,(l.getD k c40).c,(l.getD k c40).d⟩):=(((Ch.refl _ (fun x=>x=fb) w5).setCell (p:=⟨fb,1,none⟩) (.inr rfl) _).setCell (p:=⟨fb,2,none⟩) (.inr rfl) _).setCell (p:=⟨fb,3,none⟩) (.inr rfl) _;have hnf:¬F5 fb:=st'.notin hfl h.nf.1;have hIU:=tcT_in hL lv false _ _ hU;refine ⟨hf5,{pw:=?_,pl:=?_,t:=tcK_next hk h.t hU hq,fr:=?_,f:=?_,r:=(h.r.keep (st'.1.block rb hrl h.nr.1)).keep (hc.block rb (by omega) (fun e=>h.nfr e.symm)),row:=fun j hj=>?_,nf:=⟨hnf,h.nf.2⟩,nr:=⟨st'.notin hrl h.nr.1,h.nr.2⟩,st:=?_,tf:=h.tf,nfr:=h.nfr}⟩
 ·have:=h5.other hc hnf (fun x hx a n c e=>(h.tf x hx a n c e).1);rw [mkR_app,List.append_assoc] at this;exact this
 ·rw [mkR_app,List.append_assoc] at hp5;exact hp5
 ·exact (fr_two (fun x hx=>by rw [←hN];exact (hIU.1 x hx).2)).2 ⟨h.fr,hfr⟩
 ·rw [sum3_succ hk];exact ((hf5.set1 _).set2 _).set3 _
 ·obtain ⟨b,off,e1,e2,e3,a4⟩:=h.row j hj;exact ⟨b,off,e1,st'.notin a4.lt e2,e3,(a4.same (st'.1.block b a4.lt e2)).same (hc.block b (by have:=a4.lt;omega) e3)⟩
 ·have h1:=h.st.trans st';exact ⟨h1.1.trans (hc.mono h1.1.size (fun k hk e=>by have:=h.nf.2;omega)),h1.2⟩
theorem KpI.done (h:KpI w wr p d F F' D0 L R pcs ts l g rb fb k n lv T) (q:C4):AtK (putK wr rb q) rb q∧PWA (putK wr rb q) p d F' D0 L (mkR R T.tp) (pcs++T.pc) ts∧Step F F' w (putK wr rb q):=by
 have hc:=putK_ch wr rb q;exact ⟨h.r.putK q,h.pw.other hc h.nr.1 (fun x hx a n c e=>(h.tf x hx a n c e).2),h.st.1.trans (hc.mono h.st.1.size (fun k hk e=>by have:=h.nr.2;omega)),h.st.2⟩
theorem KpI.no (h:KpI w wr p d F F' D0 L R pcs ts l g rb fb k n lv T) (hL:Bys L) (hN:pgN L=R.length) (hk:k<l.length) (hno:∀U,tcT L lv false (l.getD k c40).a=some U→kdQ U.s (l.getD k c40)=true→¬FrR (mkR R T.tp) U.tp):∀V,tcK (tcT L lv false) l=some V→¬FrR R V.tp:=by
 intro V hV hF;obtain ⟨U,Z,h1,h2,h3,rfl⟩:=tcK_whole hk h.t hV;have hIU:=tcT_in hL lv false _ _ h1;have hIZ:=tcK_in (fun n T=>tcT_in hL lv false n T) _ _ h3;have e:(tcA (tcA T U) Z).tp=T.tp++(U.tp++Z.tp):=by simp [tcA]
 rw [e] at hF
 have hin:∀x∈U.tp++Z.tp,x<R.length:=fun x hx=>by
  rw [←hN];rcases List.mem_append.1 hx with hx|hx
  ·exact (hIU.1 x hx).2
  ·exact (hIZ.1 x hx).2
 have h4:=((fr_two hin).1 hF).2;have h5:=((fr_two (fun x hx=>by rw [mkR_len];exact hin x (List.mem_append_right _ hx))).1 h4).1;exact hno U h1 h2 h5
end
def leastK (root:Bool):Int:=if root then 2 else 6
theorem in_ok {z:List Int} {lv:Nat} {root:Bool}:inB3 z lv root=false↔(reE true z=0∧reV true z=(lv:Int)∧leastK root≤((reL true z).length:Int)):=by
 unfold inB3 leastK;cases root with
 |true=>simp;intro _ _;omega
 |false=>simp;intro _ _;omega
theorem tcT_in_iff {L z:List Int} {lv:Nat} {root:Bool} {n:Int} (hin:inR (pgN L) n=true) (hz:pageOf L n.toNat=z) {l:List C4} (hl:reL true z=l) (T:Tc):tcT L (lv+1) root n=some T↔(inB3 z (lv+1) root=false∧∃V,tcK (tcT L lv false) l=some V∧T=⟨n.toNat::V.tp,V.pc,V.s⟩):=by
 conv=>lhs;unfold tcT
 rw [hin,hz,hl];cases inB3 z (lv+1) root with
 |true=>simp
 |false=>
  simp;cases tcK (tcT L lv false) l with
  |none=>simp
  |some V=>simp [eq_comm]
end Go.Proofs.YtjllhcifmfhkmaaGreat.Oct
