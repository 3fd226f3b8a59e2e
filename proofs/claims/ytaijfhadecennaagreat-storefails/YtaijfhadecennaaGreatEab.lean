/- Part of a proof. -/
import Derived.Test.YtaijfhadecennaaGreatEaa
import Derived.Deep.AppendLies
import Derived.Test.YtaijfhadecennaaGreatEma
import Derived.Test.YtaijfhadecennaaGreatIb
import Derived.Laws.IdiomRangeMap
open Go.Proofs.Tryz
set_option maxHeartbeats 4000000
namespace Go.Proofs.YtaijfhadecennaaGreat.Oct
open Go.RowKit
def chQ (L:List Int):Nat->Int->List Int
 |0,_=>[]
 |f+1,n=>if n=0 then [] else n::chQ L f (ptN (pageOf L n.toNat))
theorem appL {ops:Array Oper} {rest:List Oper} {o:Oper} {a:Act} {Q:Exit->Act->World->Prop} (wr:World) (hgd:o.guard=none) (s x:Operand)
  (ho:o.op=.call {callee:=.builtin .append,args:= #[s,x],argTypes:= #[54,54]})
  (v:Value) (xs:List Int) (z:Int) (hs:a.eval s=v) (hown:OwnI 0 wr v xs) (hx:a.eval x=.slice (some ⟨wr.heap.size,0,none⟩) 1 1) (hsz:xs.length<=1000000)
  (h:∀g cap w',OwnI 0 w' (.slice (some ⟨g,0,none⟩) (xs.length+1) cap) (xs++[z])->(wr.alloc (.cells #[.int .i64 z] 3)).grownBy w' v.ownBlock->(v.ownBlock=some g\/g=wr.heap.size+1)->g<w'.heap.size->wpList prog ops Q rest (a.put o.dst (.slice (some ⟨g,0,none⟩) (xs.length+1) cap)) w'):wpList prog ops Q (o::rest) a (wr.alloc (.cells #[.int .i64 z] 3)):=by
 obtain ⟨i0,hi,hz0,hz1,hz2⟩:=info_parts info3;refine wpList_append_lies _ hgd s x 54 ho 0 3 i0 (.int .i64 0) 1 8 underlying54 hi hz0 hz1 hz2 rfl (by decide) v xs.length (xs.map (Value.int .i64)) hs (World.ownsRow.alloc hown _) ⟨wr.heap.size,0,none⟩ 1 1 [.int .i64 z] hx rfl (World.news_of_block (heap_alloc_new wr _)) (by simp [Value.oneCell']) (by decide) (by unfold maxLen;omega) (by omega) (jT _) (wr.heap.size+1) (by simp) ?_;intro g cap w' h1 h2 h3 h4;refine h g cap w' ?_ h2 h3 h4;unfold OwnI;rw [jN,qI];exact h1
theorem UN {w:World} {ops:Array Oper} {rest:List Oper} {o:Oper} {a:Act} {Q:Exit->Act->World->Prop} (hgd:o.guard=none) (s x:Operand)
  (ho:o.op=.call {callee:=.builtin .append,args:= #[s,x],argTypes:= #[32,32]})
  (base:Nat) (v:Value) (xs:List Int) (hs:a.eval s=v) (hown:Own base w v xs) (ad:Addr) (zs:List Int) (n c:Nat) (hx:a.eval x=.slice (some ad) n c) (hn:zs.length=n) (hn0:0<n)
  (hrow:Row w (some ad) c zs) (hsz:xs.length+n<=100000000) (hbase:base<=w.heap.size)
  (h:∀g cap w',Own base w' (.slice (some ⟨g,0,none⟩) (xs.length+n) cap) (xs++zs)->w.grownBy w' v.ownBlock->(v.ownBlock=some g\/g=w.heap.size)->wpList prog ops Q rest (a.put o.dst (.slice (some ⟨g,0,none⟩) (xs.length+n) cap)) w'):wpList prog ops Q (o::rest) a w:=by
 subst hn;obtain ⟨i0,hi,hz0,hz1,hz2⟩:=info_parts info5;refine wpList_append_lies w hgd s x 32 ho base 5 i0 (.int .u8 0) 1 1 underlying32 hi hz0 hz1 hz2 rfl (by decide) v _ _ hs hown ad _ c (zs.map (Value.int .u8)) hx (by simp) (QS hrow) (zQ zs) hn0 (by unfold maxLen;omega) (by omega) hbase _ rfl ?_;intro g cap w' h1 h2 h3 _;refine h g cap w' ?_ h2 h3;unfold Own;rw [jN,qI];exact h1
theorem ptL_pos {z:List Int} (hz:Bys z) (h:ptE z=0):0<(ptL z).length:=by
 have ho:opE z=0:=by
  by_cases ho:opE z=0
  ·exact ho
  ·exact absurd (h.symm.trans (gP ho).1).symm ho
 obtain ⟨_,_,_,hlen⟩:=JW hz ho
 have hb:ptB (opP z)=true:=by
  cases hb:ptB (opP z) with
  |true=>rfl
  |false=>have:=(vN ho hb).1;rw [h] at this;cases this
 unfold ptB at hb;simp only [jO,jR] at hb;unfold ptL;rw [if_pos h,qG,qC,hlen];omega
section
variable {w w':World} {p d gr cr cC:Nat} {F FD:Nat->Prop} {D0:Dv} {L:List Int} {vM:Value} {aC:Option Addr} {R:List Bool} {cs:List Int}
theorem W0.addC (h:W0 w p d F FD D0 L gr cr vM aC cC R cs) {z:Int} {o:Obj} {w2:World} {g2 cap2:Nat} (ho:OwnI 0 w2 (.slice (some ⟨g2,0,none⟩) (cs.length+1) cap2) (cs++[z]))
  (hgr:(w.alloc o).grownBy w2 (Value.slice aC cs.length cC).ownBlock) (hat:(Value.slice aC cs.length cC).ownBlock=some g2\/g2=w.heap.size+1) (hlt:g2<w2.heap.size):
  (w2.cell? ⟨p,3,none⟩=some (.slice aC cs.length cC)/\w2.frozen? ⟨p,3,none⟩=false)/\W0 (w2.setCell ⟨p,3,none⟩ (.slice (some ⟨g2,0,none⟩) (cs.length+1) cap2)) p d (fun k=>F k\/k=g2) FD D0 L gr cr vM (some ⟨g2,0,none⟩) cap2 R (cs++[z])/\
   Step F (fun k=>F k\/k=g2) w (w2.setCell ⟨p,3,none⟩ (.slice (some ⟨g2,0,none⟩) (cs.length+1) cap2)):=by
 have hs0:(w.alloc o).heap.size=w.heap.size+1:=zE w o;have hs:w.heap.size<=w2.heap.size:=by have:=hgr.size;omega
 have hk:∀g,g<w.heap.size->¬obl aC g->w2.heap[g]?=w.heap[g]?:=fun g hg hne=>(hgr.block g (by omega) (fun e=>hne (zC e.symm))).trans (heap_alloc_old w o hg)
 have hg:obl aC g2\/w.heap.size<=g2:=by
  rcases hat with e|e
  ·exact .inl (zC e)
  ·exact .inr (by omega)
 have lp:=h.lt p h.fp;have ob:∀y,obl (some (⟨g2,0,none⟩:Addr)) y->y=g2:=fun y ⟨x,e,hx⟩=>by cases e;exact hx.symm
 have ne:∀k,F k->¬obl aC k->¬g2=k:=fun k hk hn e=>by rcases hg with hg|hg;exact hn (e▸hg);have:=h.lt k hk;omega
 have hp2:¬g2=p:=ne p h.fp h.pC;have k:∀g,¬g=p->(w2.setCell ⟨p,3,none⟩ (.slice (some ⟨g2,0,none⟩) (cs.length+1) cap2)).heap[g]?=w2.heap[g]?:=fun g hg=>Below.heap_setCell w2 ⟨p,3,none⟩ _ g hg
 have kk:∀g,F g->¬g=p->¬obl aC g->(w2.setCell ⟨p,3,none⟩ (.slice (some ⟨g2,0,none⟩) (cs.length+1) cap2)).heap[g]?=w.heap[g]?:=fun g h1 h2 h3=>(k g h2).trans (hk g (h.lt g h1) h3)
 refine ⟨⟨?_,?_⟩,?_,⟨⟨?_,?_,?_,by rw [yP];exact hs,fun x hlt' hnf=>?_⟩,fun x hx=>?_⟩⟩
 ·exact (World.cell?_of_block (w:=w) (a:=⟨p,3,none⟩) (hk p lp h.pC)).trans h.at.2.2.2.1
 ·exact (World.frozen?_of_block (w:=w) (a:=⟨p,3,none⟩) (hk p lp h.pC)).trans (h.at.2.2.2.2 3)
 ·refine {well:=h.well,now:=h.now,rn:=h.rn,ops:=h.ops,fD:=fun x hx=>.inl (h.fD x hx),fp:=.inl h.fp,fg:=.inl h.fg,pD:=h.pD,gD:=h.gD,pg:=h.pg,lt:=?_,dev:=?_,cells:=?_,rch:=?_,ch:=?_,fC:=?_,CD:=?_,pC:=?_,gC:=?_}
  ·intro x hx;rw [yP];rcases hx with hx|rfl
   ·have:=h.lt x hx;omega
   ·exact hlt
  ·exact h.dev.keep (by rw [yP];exact hs) (fun g hg=>kk g (h.fD g hg) (fun e=>h.pD (e▸hg)) (fun e=>h.CD g e hg))
  ·rw [yO _ _ _ _ _ _ _ ((hk p lp h.pC).trans h.cells),jN];rfl
  ·exact h.rch.kept (kk gr h.fg (fun e=>h.pg e.symm) h.gC)
  ·rw [jN];exact OwnI.keepO ho (fun g hg=>k g (fun e=>hp2 ((ob g hg).symm.trans e)))
  ·intro x hx;exact .inr (ob x hx)
  ·intro x hx e;have:=ob x hx;subst this;rcases hat with e2|e2
   ·exact h.CD _ (zC e2) e
   ·have:=h.lt _ (h.fD _ e);omega
  ·exact fun e=>hp2 (ob p e).symm
  ·exact fun e=>ne gr h.fg h.gC (ob gr e).symm
 ·exact hgr.os
 ·exact hgr.tape
 ·exact hgr.output
 ·exact (k x (fun e=>hnf (e▸h.fp))).trans (hk x hlt' (fun e=>hnf (h.fC x e)))
 ·rcases hx with hx|rfl
  ·exact .inl hx
  ·rcases hg with hg|hg
   ·exact .inl (h.fC _ hg)
   ·exact .inr hg
theorem KK {L:List Int} {f:Nat} {R:List Bool} {out:List Int}:chB L (f+1) 0 R out=some (R,out):=by unfold chB;rw [if_pos rfl]
theorem KI {L:List Int} {f:Nat} {n:Int} {R:List Bool} {out:List Int} {fin:List Bool × List Int} (hn:¬n=0) (h:chB L (f+1) n R out=some fin):rcB R n=true/\ptE (pageOf L n.toNat)=0/\chB L f (ptN (pageOf L n.toNat)) (R.set n.toNat true) (out++ptL (pageOf L n.toNat))=some fin:=by
 rw [chB,if_neg hn] at h;split at h
 ·next hc=>
  rw [jO,jR] at hc;exact ⟨hc.1,hc.2,h⟩
 ·cases h
structure C0I (w wr:World) (p d:Nat) (F FD:Nat->Prop) (D0:Dv) (L:List Int) (N:Nat) (vM:Value) (f:Nat) (n:Int) (v:Value) (R:List Bool) (out cs:List Int) (fin:List Bool × List Int) (finC:List Int):Prop where
 pw:∃F',W0A wr p d F' FD D0 L vM R cs/\Step F F' w wr/\∀g,v.ownBlock=some g->¬F' g
 rl:R.length=N
 fin:chB L f n R out=some fin
 fq:cs++chQ L f n=finC
 own:Own w.heap.size wr v out
 by':Bys out
 n:0<=n/\n<=9223372036854775807
 fu:N<f+cnt R
 ln:out.length<=244*cnt R
 cl:cs.length<=cnt R
def C0E (w:World) (p d:Nat) (F FD:Nat->Prop) (D0:Dv) (L:List Int) (vM:Value) (R:List Bool) (fin:List Bool × List Int) (finC:List Int) (e:Ending) (w':World):Prop:=
 ∃g c F',e=.returned (.slice g fin.2.length c)/\W0A w' p d F' FD D0 L vM fin.1 finC/\Step F F' w w'/\Own w.heap.size w' (.slice g fin.2.length c) fin.2/\(∀k,obl g k->¬F' k)/\Bys fin.2/\fin.1.length=R.length/\fin.2.length<=999424/\finC.length<=cnt fin.1
set_option maxRecDepth 20000 in
theorem chain0 (h:W0A w p d F FD D0 L vM R cs) (n:Int) (hn:0<=n/\n<=9223372036854775807) (f:Nat) (hf:R.length<f) (hcl:cs.length<=cnt R) (fin:List Bool × List Int) (hfin:chB L f n R []=some fin) (finC:List Int) (hfq:cs++chQ L f n=finC):
  Calls prog 193 #[.pointer (some ⟨p,0,none⟩),.int .i64 n] w fun e w'=>C0E w p d F FD D0 L vM R fin finC e w':=by
 have hrn:=h.rn;have HI0:Hid (C0I w w p d F FD D0 L R.length vM f n (.slice none 0 0) R [] cs fin finC):=⟨⟨F,h,Step.refl F w,fun g e=>(by cases e)⟩,rfl,hfin,hfq,⟨rfl,.inl ⟨rfl,rfl⟩⟩,fun z hz=>(by cases hz),hn,by omega,by simp,hcl⟩;have HK:Hid ((∀k,F k->k<w.heap.size)/\R.length<=4096/\Bys L):=⟨h.lt,hrn.2.1,hrn.2.2.2.2⟩;clear h hf hfin hn hrn hcl hfq;go_enter func193,ntmps193
 go_wp2_with fail
 go_loopg [1,5] f (fun k i v wr=>∃(n':Int) (R':List Bool) (out cs':List Int),i=.int .i64 n'/\Hid (C0I w wr p d F FD D0 L R.length vM k n' v R' out cs' fin finC))
 case atStart=>exact ⟨n,R,[],cs,rfl,HI0.out⟩
 case round=>
  clear HI0;obtain ⟨n',R',out,cs',rfl,HI⟩:=hrel;obtain ⟨ov,oc,hv,hrow⟩:=HI.out.own.row HI.out.by';have hol:out.length<=999424:=by have:=HI.out.ln;have:=XE R';rw [HI.out.rl] at this;have:=HK.out.2.1;omega
  have hoc:=hrow.2.2.1;unfold maxLen at hoc;have hoc2:=hrow.2.1;obtain ⟨f1,hf1⟩:∃f1,gk=f1+1:=⟨gk-1,by have:=HI.out.fu;have:=XE R';rw [HI.out.rl] at this;omega⟩;subst hf1;subst hv;by_cases hn0:n'=0
  ·subst hn0
   have HD:Hid (C0E w p d F FD D0 L vM R fin finC (.returned (.slice ov out.length oc)) wr):=by
    have e1:=HI.out.fin;rw [KK] at e1;have e2:=HI.out.fq;rw [chQ,if_pos rfl,xW] at e2;cases e1;subst e2;obtain ⟨F',a,b,c⟩:=HI.out.pw;exact ⟨ov,oc,F',rfl,a,b,HI.out.own,fun k hk=>c k (zI hk),HI.out.by',HI.out.rl,hol,HI.out.cl⟩
   have hle:decide ((out.length:Int)<=1048576)=true:=jE (by omega);have hdy:=QB wr;clear HI hrow;go_wp2_with (go_at_call 190;refine hdy.mono ?_;rintro e w' ⟨rfl,rfl⟩)
   go_ret
   exact HD.out
  ·have hn1:(n'==0)=false:=by simpa using hn0
   have hn2:(n' !=0)=true:=by simpa using hn0
   obtain ⟨hy,hE0,hfn⟩:=KI hn0 HI.out.fin;obtain ⟨F1,q1,q2,q3⟩:=HI.out.pw;have hrc:=reach0 q1 n' hy;have HN0:Hid (¬n'=0/\rcB R' n'=true/\ptE (pageOf L n'.toNat)=0/\chB L f1 (ptN (pageOf L n'.toNat)) (R'.set n'.toNat true) (out++ptL (pageOf L n'.toNat))=some fin):=⟨hn0,hy,hE0,hfn⟩;have HQ:Hid (W0A wr p d F1 FD D0 L vM R' cs'/\Step F F1 w wr/\∀k,obl ov k->¬F1 k):=⟨q1,q2,fun k hk=>q3 k (zI hk)⟩;clear hrow hn0 hy hE0 hfn q1 q2 q3;go_wp2_with fail
   refine hrc.mono ?_;clear hrc;rintro e w1 ⟨g,c,rfl,ho,hw1,hc1⟩;have hzb:Bys (pageOf L n'.toNat):=JI HK.out.2.2 _;have hpl:(pageOf L n'.toNat).length=256:=((ho.row' hzb).1).symm;have hpt:=Chs.Part_new (some ⟨g,0,none⟩) c (pageOf L n'.toNat) w1 (ho.row' hzb).2 HN0.out.2.2.1;rw [hpl] at hpt
   have H1:Hid (W0A w1 p d F1 FD D0 L vM (R'.set n'.toNat true) cs'/\Step F F1 w w1/\Own w.heap.size w1 (.slice ov out.length oc) out):=
    ⟨hw1,HQ.out.2.1.trans (Step.of hc1),yQ HI.out.own (fun g hg=>hc1.block g (World.ownsRow.lt HI.out.own g hg).2 (HQ.out.2.2 g (zC hg)))⟩
   have HZB:Hid (Bys (ptL (pageOf L n'.toNat))/\0<=ptN (pageOf L n'.toNat)/\ptN (pageOf L n'.toNat)<=4096/\(ptL (pageOf L n'.toNat)).length<=244/\0<(ptL (pageOf L n'.toNat)).length):=⟨gO hzb,(nx_bd hzb).1,(nx_bd hzb).2,gM,ptL_pos hzb HN0.out.2.2.1⟩;clear ho hw1 hc1 hzb hpl;obtain ⟨z,hz⟩:∃z,pageOf L n'.toNat=z:=⟨_,rfl⟩;rw [hz] at hpt HZB;obtain ⟨T,hT⟩:∃T,ptL z=T:=⟨_,rfl⟩;obtain ⟨Y,hY⟩:∃Y,ptN z=Y:=⟨_,rfl⟩;obtain ⟨tl,htl⟩:∃tl,T.length=tl:=⟨_,rfl⟩;rw [hT,hY,htl] at hpt;rw [hT,hY,htl] at HZB;have htl4:=HZB.out.2.2.2.1;have htl0:=HZB.out.2.2.2.2;have HT:Hid (ptL z=T/\ptN z=Y/\T.length=tl/\pageOf L n'.toNat=z):=⟨hT,hY,htl,hz⟩;clear hT hY htl hz;go_wp2_with fail
   refine hpt.mono ?_;clear hpt;rintro e w2 ⟨tb,to,tc,rfl,hlo,hrow2,hb2⟩;obtain ⟨gr,cr,aC,cC,hW⟩:=H1.out.1.below hb2
   have H2:Hid (W0 w2 p d F1 FD D0 L gr cr vM aC cC (R'.set n'.toNat true) cs'/\Step F F1 w w2/\Own w.heap.size w2 (.slice ov out.length oc) out/\Row w2 (some ⟨tb,to,none⟩) tc T/\w1.heap.size<=tb/\∀k,F1 k->k<w1.heap.size):=
    ⟨hW,H1.out.2.1.trans (Step.ofB hb2),vR H1.out.2.2 hb2,hrow2,hlo,H1.out.1.lt⟩
   obtain ⟨d0,d1,d2,d3,d4⟩:=hW.at;have hlp:=hW.lt p hW.fp;have hpn:¬p=w2.heap.size:=by omega
   have hcl:=HI.out.cl;have hcl2:=XE R';have hcl3:=HI.out.rl;have hcl4:=HK.out.2.1;have hown0:=hW.ch;have hdy:=QB w2;have hs2:=H2.out.2.1.1.size;obtain ⟨nc,hnc⟩:∃nc,cs'.length=nc:=⟨_,rfl⟩;have HNC:Hid (cs'.length=nc):=hnc;rw [hnc] at d3;have hnc1:nc<=4096:=by omega
   have d3':(w2.alloc (.cells #[.int .i64 n'] 3)).cell? ⟨p,3,none⟩=some (.slice aC nc cC):=(World.cell?_of_block (w:=w2) (a:=⟨p,3,none⟩) (heap_alloc_old w2 _ hlp)).trans d3;have HOW:Hid (OwnI 0 w2 (.slice aC cs'.length cC) cs'):=hown0;clear hW hb2 hrow2 hlo H1 hown0 hcl hcl2 hcl3 hcl4 hnc d0 d1 d2 d4;go_wp2_with (first|(go_at_call 190;refine hdy.mono ?_;rintro e w' ⟨rfl,rfl⟩;clear hdy)|(at_builtin;refine appL w2 rfl _ _ rfl (.slice aC nc cC) cs' n' rfl (by rw [<-HNC.out];exact HOW.out) rfl (by rw [HNC.out];omega) ?_;intro g5 cap5 w5 ho5 hg5 ht5 hl5;have H5:Hid (OwnI 0 w5 (.slice (some ⟨g5,0,none⟩) (cs'.length+1) cap5) (cs'++[n'])/\(w2.alloc (.cells #[.int .i64 n'] 3)).grownBy w5 (Value.slice aC cs'.length cC).ownBlock/\((Value.slice aC cs'.length cC).ownBlock=some g5\/g5=w2.heap.size+1)/\g5<w5.heap.size):=⟨ho5,by rw [HNC.out];exact hg5,by rw [HNC.out];exact ht5,hl5⟩;have ha5:=H2.out.1.addC H5.out.1 H5.out.2.1 H5.out.2.2.1 H5.out.2.2.2;obtain ⟨⟨e5,f5⟩,hA5,st5⟩:=ha5;rw [HNC.out] at e5;have HA5:Hid (_/\_):=⟨hA5,st5⟩;have H6:Hid (Own w.heap.size (w5.setCell ⟨p,3,none⟩ (.slice (some ⟨g5,0,none⟩) (cs'.length+1) cap5)) (.slice ov out.length oc) out/\Row (w5.setCell ⟨p,3,none⟩ (.slice (some ⟨g5,0,none⟩) (cs'.length+1) cap5)) (some ⟨tb,to,none⟩) tc T/\w.heap.size<=(w5.setCell ⟨p,3,none⟩ (.slice (some ⟨g5,0,none⟩) (cs'.length+1) cap5)).heap.size):=⟨yQ H2.out.2.2.1 (fun g hg=>st5.1.block g (World.ownsRow.lt H2.out.2.2.1 g hg).2 (HQ.out.2.2 g (zC hg))),H2.out.2.2.2.1.ch st5.1 (fun x hx=>(by cases hx;intro e;have h1:=H2.out.2.2.2.2.2 _ e;have h2:=H2.out.2.2.2.2.1;simp only at h1;omega)),jP H2.out.2.1.1.size st5.1.size⟩;clear ho5 hg5 ht5 hl5 hA5 st5 d3')|(at_builtin;refine UN rfl _ _ rfl w.heap.size (.slice ov out.length oc) out rfl H6.out.1 ⟨tb,to,none⟩ T tl tc rfl HT.out.2.2.1 htl0 H6.out.2.1 (by omega) H6.out.2.2 ?_;intro g7 cap7 w7 ho7 hg7 ht7;have H7:Hid _:=And.intro ho7 (And.intro hg7 ht7);clear ho7 hg7 ht7))
   go_roundg f1
   case rel=>
    refine ⟨Y,R'.set n'.toNat true,out++T,cs'++[n'],rfl,?_⟩;obtain ⟨o7,g7',t7⟩:=H7.out;obtain ⟨hA,st⟩:=HA5.out;have hq:=QZ HN0.out.2.1;have hcn:=uV (R:=R') (n:=n'.toNat) (by omega) hq.2.2;have h1:=HI.out.fu;have h2:=HI.out.ln;have h3:=HI.out.cl;have hs6:=hA.lt;have hs0:=H5.out.2.2.2;have hsz:=yP w5 ⟨p,3,none⟩ (.slice (some ⟨g5,0,none⟩) (cs'.length+1) cap5)
    have hov:∀k,(Value.slice ov out.length oc).ownBlock=some k->¬(F1 k\/k=g5):=fun k hk e=>by
     have hk2:=HQ.out.2.2 k (zC hk);rcases e with e|e
     ·exact hk2 e
     ·have hlt:=(World.ownsRow.lt H2.out.2.2.1 k hk).2;rcases H5.out.2.2.1 with h5|h5
      ·exact hk2 (H2.out.1.fC k (by rw [e];exact zC h5))
      ·omega
    have hgr:Ch (w5.setCell ⟨p,3,none⟩ (.slice (some ⟨g5,0,none⟩) (cs'.length+1) cap5)).heap.size (fun k=>(Value.slice ov out.length oc).ownBlock=some k) (w5.setCell ⟨p,3,none⟩ (.slice (some ⟨g5,0,none⟩) (cs'.length+1) cap5)) w7:=(Ch.refl _ _ _).grown g7' (jB _) (fun k hk=>.inr hk);have hW7:W0A w7 p d (fun k=>F1 k\/k=g5) FD D0 L vM (R'.set n'.toNat true) (cs'++[n']):=W0A.keep ⟨_,_,_,_,hA⟩ hgr.size (fun g hg=>hgr.block g (hs6 g hg) (fun e=>hov g e hg));have st2:=H2.out.2.1.trans st;have hbase:∀k,(Value.slice ov out.length oc).ownBlock=some k->w.heap.size<=k:=fun k hk=>(World.ownsRow.lt H2.out.2.2.1 k hk).1
    have st3:Step F (fun k=>F1 k\/k=g5) w w7:=⟨st2.1.trans (hgr.mono st2.1.size (fun k hlt hk=>absurd hlt (Nat.not_lt.2 (hbase k hk)))),st2.2⟩;refine {pw:=⟨_,hW7,st3,fun k hk=>?_⟩,rl:=by rw [jY];exact HI.out.rl,fin:=by rw [<-HN0.out.2.2.2,HT.out.2.2.2,HT.out.1,HT.out.2.1],fq:=?_,own:=o7,by':=HI.out.by'.app HZB.out.1,n:=by have:=HZB.out.2.1;have:=HZB.out.2.2.1;omega,fu:=by rw [hcn];omega,ln:=by rw [hcn,jN,HT.out.2.2.1];omega,cl:=by rw [hcn,jN];simp;omega}
    ·have e:g7=k:=by simpa [Value.ownBlock] using hk
     subst e;rcases t7 with t7|t7
     ·exact hov _ t7
     ·rintro (e|e)
      ·have h8:=hs6 _ (.inl e);omega
      ·omega
    ·rw [<-HI.out.fq,chQ,if_neg HN0.out.1,HT.out.2.2.2,HT.out.2.1,jX];rfl
   case measure=>omega
end
end Go.Proofs.YtaijfhadecennaaGreat.Oct
namespace Go.Proofs.YtaijfhadecennaaGreat.Oct.Sx
open Go.RowKit
theorem check_ok (w:World):Calls prog 92 #[.int .i64 0] w fun e w'=>e=.returned (.tuple #[])/\w=w':=by
 go_enter func92,ntmps92
 go_wp2;go_end0
 exact ⟨rfl,rfl⟩
theorem check_no (k:Int) (hk:¬k=0) (w:World):Calls prog 92 #[.int .i64 k] w fun e w'=>e=thrown k/\w=w':=by
 have h1:(k==0)=false:=by simpa using hk
 have h2:(k !=0)=true:=by unfold bne;rw [h1];rfl
 go_enter func92,ntmps92
 go_wp2;exact ⟨rfl,rfl,rfl⟩
theorem held_nil (w:World) (s:Nat) (h:w.cell? ⟨s,15,none⟩=some (.map none)):Calls prog 73 #[.pointer (some ⟨s,0,none⟩)] w fun e w'=>e=.returned (.slice none 0 0)/\Below w.heap.size w w':=by
 have hrg:∀wx:World,(Instr.range 79 (.map none)).run prog wx=_:=fun wx=>run_range_nilMap wx 79 _ _ underlying79
 have hnx:=fun ty=>run_next_nilMap (P:=prog) w ty 0 0 #[]
 go_enter func73,ntmps73
 go_wp2_with fail
 refine wp_loop_rounds 1 ?_;rw [rounds_succ];go_wp2;go_ret
 exact ⟨rfl,(Below.refl _ w).alloc (jB _) _⟩
set_option maxRecDepth 20000 in
theorem YM {w:World} {q:Nat} {F:Nat->Prop} {P:List Int} (h:Sps.Spa w q F P) (a:Option Addr) (cap n:Nat) (l:List Int) (hl:RowI w a cap l) (hn:l.length=n) (hz:∀z∈l,0<=z/\z<=4096) (ha:∀k,obl a k->k<w.heap.size/\¬F k):
  Calls prog 72 #[.pointer (some ⟨q,0,none⟩),.slice a n cap] w fun e w'=>e=.returned (.tuple #[])/\∃F',Sps.Spa w' q F' (gvA P l)/\Step F F' w w':=by
 have hcap:=hl.1;have hmx:=hl.2.1;unfold maxLen at hmx;have HL:Hid (RowI w a cap l/\(∀z∈l,0<=z/\z<=4096)/\∀k,obl a k->k<w.heap.size/\¬F k):=⟨hl,hz,ha⟩;have HN:Hid (l.length=n):=hn;have H0:Hid (Sps.Spa w q F P):=h;rw [hn] at hcap;clear h hl hz ha hn;go_enter func72,ntmps72
 go_wp2_with fail
 go_loopg [8] n (fun gh i wr=>∃k:Nat,k<=n/\gh=n-k/\i=.int .i64 (k:Int)/\Hid (∃F',Sps.Spa wr q F' (gvA P (l.take k))/\Step F F' w wr))
 case atStart=>exact ⟨0,jT _,rfl,rfl,F,by rw [List.take_zero];exact H0.out,Step.refl F w⟩
 case round=>
  clear H0;obtain ⟨k,hk,hgk,rfl,HI⟩:=hrel;have HGK:Hid (gk=n-k):=hgk;clear hgk;by_cases hlt:k<n
  ·obtain ⟨F',hI,st⟩:=HI.out;obtain ⟨b,off,rfl,hc⟩:=HL.out.1.at' k (by rw [HN.out];exact hlt);have hb:=HL.out.2.2 b ⟨_,rfl,rfl⟩;have hc':wr.cell? ⟨b,off+k,none⟩=some (.int .i64 (l.getD k 0)):=(st.1.cell (p:=⟨b,off+k,none⟩) hb.1 hb.2).trans hc;obtain ⟨z,hz⟩:∃z,l.getD k 0=z:=⟨_,rfl⟩;rw [hz] at hc';have hgv:=Sps.give_any hI z;have hzm:0<=z/\z<=4096:=HL.out.2.1 z (by rw [<-hz,jA,jC (by rw [HN.out];exact hlt)];exact qB _)
   have HZ:Hid (l.take (k+1)=l.take k++[z]):=by
    show _=_;rw [xM,<-hz,jA,jC (by rw [HN.out];exact hlt)];rfl
   have HST:Hid (Step F F' w wr):=st;clear hI st hc hb hz HI;go_wp2_with fail
   refine hgv.mono ?_;clear hgv;rintro e w1 ⟨rfl,F2,h2,st2⟩;have H2:Hid (∃F',Sps.Spa w1 q F' (gvA P (l.take (k+1)))/\Step F F' w w1):=⟨F2,by rw [HZ.out];unfold gvA;rw [List.foldl_append];exact h2,HST.out.trans st2⟩;clear h2 st2;go_wp2;go_roundg (n-(k+1))
   case rel=>exact ⟨k+1,by omega,rfl,by go_num,H2.out⟩
   case measure=>have:=HGK.out;omega
  ·obtain rfl:k=n:=by omega
   have HE:Hid (∃F',Sps.Spa wr q F' (gvA P l)/\Step F F' w wr):=by
    have:=HI.out;rw [qR (by rw [HN.out];exact jB _)] at this;exact this
   clear HI;go_wp2;go_end0
   exact ⟨rfl,HE.out⟩
def TkI (w wr:World) (q:Nat) (F:Nat->Prop) (P:List Int) (k:Nat) (v:Value):Prop:=
 ∃F',Sps.Spa wr q F' (tkS k P)/\Step F F' w wr/\OwnI w.heap.size wr v (tkG k P)/\(∀g,v.ownBlock=some g->¬F' g)/\k<=P.count 0
theorem TkI.app {w w1 w5:World} {q:Nat} {F F2:Nat->Prop} {P:List Int} {k:Nat} {v:Value} {o:Obj} {g cap:Nat} {z:Int} (hs:Sps.Spa w1 q F2 (tkS (k+1) P)) (st:Step F F2 w w1) (hown:OwnI w.heap.size w1 v (tkG k P)) (hn:∀g,v.ownBlock=some g->¬F2 g) (hk:k<P.count 0) (hz:z=alN (tkS k P))
  (ho:OwnI 0 w5 (.slice (some ⟨g,0,none⟩) ((tkG k P).length+1) cap) (tkG k P++[z])) (hgr:(w1.alloc o).grownBy w5 v.ownBlock) (hat:v.ownBlock=some g\/g=w1.heap.size+1):TkI w w5 q F P (k+1) (.slice (some ⟨g,0,none⟩) ((tkG k P).length+1) cap):=by
 have hlt:=JA hs;have c1:Ch w1.heap.size (fun x=>v.ownBlock=some x) w1 w5:=((Ch.refl _ _ w1).alloc (jB _) o).grown hgr (by rw [zE];omega) (fun x hx=>.inr hx);have hbase:∀x,v.ownBlock=some x->w.heap.size<=x:=fun x hx=>(World.ownsRow.lt hown x hx).1
 have hsz:=st.1.size;refine ⟨F2,zH hs c1.size (fun x hx=>c1.block x (hlt x hx) (fun e=>hn x e hx)),⟨st.1.trans (c1.mono hsz (fun x hx e=>absurd hx (Nat.not_lt.2 (hbase x e)))),st.2⟩,?_,?_,hk⟩
 ·rw [tkG,<-hz];refine yX ho (fun x hx=>?_);have e:g=x:=by simpa [Value.ownBlock] using hx
  subst e;rcases hat with e|e
  ·exact hbase _ e
  ·omega
 ·intro x hx e2;have e:g=x:=by simpa [Value.ownBlock] using hx
  subst e;rcases hat with e|e
  ·exact hn _ e e2
  ·have:=hlt _ e2;omega
set_option maxRecDepth 20000 in
theorem take_any {w:World} {q:Nat} {F:Nat->Prop} {P:List Int} (h:Sps.Spa w q F P) (n:Nat) (hn:n<=5000):
  Calls prog 89 #[.pointer (some ⟨q,0,none⟩),.int .i64 n] w fun e w'=>(∃F',(∃P',Sps.Spa w' q F' P')/\Step F F' w w')/\
   ((n<=P.count 0/\∃a c,e=.returned (.tuple #[.slice a n c,.int .i64 0])/\OwnI w.heap.size w' (.slice a n c) (tkG n P)/\∃F',Sps.Spa w' q F' (tkS n P)/\Step F F' w w'/\∀k,obl a k->¬F' k)\/
    (¬n<=P.count 0/\e=.returned (.tuple #[.slice none 0 0,.int .i64 6]))):=by
 obtain ⟨i0,hi0,hz0,hz1,hz2⟩:=info_parts info3;have H0:Hid (Sps.Spa w q F P):=h;have HFl:Hid (∀k,F k->k<w.heap.size):=JA h;clear h;go_enter func89,ntmps89
 go_wp2_with (at_make;refine wpList_make_own _ rfl _ _ 54 rfl w.heap.size 3 i0 (.int .i64 0) 1 underlying54 hi0 hz0 hz1 .i64 .i64 _ n rfl rfl rfl (by rw [hz2];omega) (by unfold maxLen;omega) (jB _) ?_;intro w1 hown1 hgrow1;have HO:Hid (_/\_):=⟨hown1,hgrow1⟩;clear hown1 hgrow1)
 have HT0:Hid (TkI w w1 q F P 0 (.slice (some ⟨w.heap.size,0,none⟩) 0 n)):=by
  obtain ⟨h1,h2⟩:=HO.out;have hb:Below w.heap.size w w1:=(Below.refl _ w).grown h2 (jB _) (fun x hx=>(by cases hx));refine ⟨F,zH H0.out hb.size (fun x hx=>hb.block x (HFl.out x hx)),Step.ofB hb,h1,fun x hx e=>?_,jT _⟩;have e2:w.heap.size=x:=by simpa [Value.ownBlock] using hx
  have:=HFl.out x e;omega
 clear HO;go_loopg [6,12] n (fun gh v i wr=>∃k:Nat,k<=n/\gh=n-k/\i=.int .i64 (k:Int)/\Hid (TkI w wr q F P k v))
 case atStart=>exact ⟨0,jT _,rfl,rfl,HT0.out⟩
 case round=>
  clear HT0;obtain ⟨k,hk,hgk,rfl,HI⟩:=hrel;have HGK:Hid (gk=n-k):=hgk;clear hgk;obtain ⟨oa,oc,hv,hrow⟩:∃a cap,u6=.slice a (tkG k P).length cap/\RowI wr a cap (tkG k P):=by obtain ⟨F',h1,h2,h3,h4⟩:=HI.out;exact h3.row
  rw [zA] at hv;subst hv;have hoc:=hrow.2.1;have hoc2:=hrow.1;rw [zA] at hoc2;unfold maxLen at hoc;by_cases hlt:k<n
  ·obtain ⟨F',h1,h2,h3,h4,h5⟩:=HI.out;have hal:=Sps.alloc_any h1;have H1:Hid (Sps.Spa wr q F' (tkS k P)/\Step F F' w wr/\OwnI w.heap.size wr (.slice oa k oc) (tkG k P)/\(∀g,(Value.slice oa k oc).ownBlock=some g->¬F' g)):=⟨h1,h2,h3,h4⟩;have HE:Hid (alE (tkS k P)=if k<P.count 0 then 0 else 6):=tk_room h5;obtain ⟨z,hz⟩:∃z,alN (tkS k P)=z:=⟨_,rfl⟩;obtain ⟨x,hx⟩:∃x,alE (tkS k P)=x:=⟨_,rfl⟩;rw [hz,hx] at hal;rw [hx] at HE;have HZ:Hid (z=alN (tkS k P)):=hz.symm;clear h1 h2 h3 h4 hz hx HI hrow;by_cases hroom:k<P.count 0
   ·obtain rfl:x=0:=by have:=HE.out;rw [if_pos hroom] at this;exact this
    go_wp2_with (first|(go_at_call 59;refine hal.mono ?_;rintro e w2 ⟨rfl,hF2⟩;have H2:Hid (∃F2,Sps.Spa w2 q F2 (alL (tkS k P))/\Step F' F2 wr w2):=hF2;clear hF2 hal;have HO2:Hid (OwnI w.heap.size w2 (.slice oa k oc) (tkG k P)):=(by obtain ⟨F2,s1,s2⟩:=H2.out;exact yQ H1.out.2.2.1 (fun g hg=>s2.1.block g (World.ownsRow.lt H1.out.2.2.1 g hg).2 (H1.out.2.2.2 g hg))))|(at_builtin;refine appL w2 rfl _ _ rfl (.slice oa k oc) (tkG k P) z rfl (yX HO2.out (fun _ _=>jT _)) rfl (by rw [zA];omega) ?_;intro g5 cap5 w5 ho5 hg5 ht5 hl5;rw [zA] at ho5;have H5:Hid (OwnI 0 w5 (.slice (some ⟨g5,0,none⟩) (k+1) cap5) (tkG k P++[z])/\(w2.alloc (.cells #[.int .i64 z] 3)).grownBy w5 (Value.slice oa k oc).ownBlock/\((Value.slice oa k oc).ownBlock=some g5\/g5=w2.heap.size+1)):=⟨ho5,hg5,ht5⟩;clear ho5 hg5 ht5 hl5;have hgl:(tkG k P).length=k:=zA k P;rw [hgl];clear hgl))
    go_roundg (n-(k+1))
    case rel=>
     refine ⟨k+1,by omega,rfl,by go_num,?_⟩;obtain ⟨F2,s1,s2⟩:=H2.out;obtain ⟨t1,t2,t3,t4⟩:=H1.out;obtain ⟨o5,g5',a5⟩:=H5.out;have o6:=TkI.app (v:=.slice oa k oc) (z:=z) (cap:=cap5) (g:=g5) (P:=P) (k:=k) s1 (t2.trans s2) HO2.out (fun g hg=>s2.notin (World.ownsRow.lt t3 g hg).2 (t4 g hg)) hroom HZ.out (by rw [zA];exact o5) g5' a5;rw [zA] at o6;exact o6
    case measure=>have:=HGK.out;omega
   ·obtain rfl:x=6:=by have:=HE.out;rw [if_neg hroom] at this;exact this
    go_wp2_with (first|(go_at_call 59;refine hal.mono ?_;rintro e w2 ⟨rfl,hF2⟩;have H2:Hid (∃F2,Sps.Spa w2 q F2 (alL (tkS k P))/\Step F' F2 wr w2):=hF2;clear hF2 hal))
    go_ret2
    obtain ⟨F2,s1,s2⟩:=H2.out;exact ⟨⟨F2,⟨_,s1⟩,H1.out.2.1.trans s2⟩,.inr ⟨by omega,rfl⟩⟩
  ·obtain rfl:k=n:=by omega
   have HE:Hid (TkI w wr q F P k (.slice oa k oc)):=HI.out;clear HI hrow;go_wp2_with fail
   go_ret2
   obtain ⟨F',h1,h2,h3,h4,h5⟩:=HE.out;exact ⟨⟨F',⟨_,h1⟩,h2⟩,.inl ⟨h5,oa,oc,rfl,h3,F',h1,h2,fun k hk=>h4 k (zI hk)⟩⟩
end Go.Proofs.YtaijfhadecennaaGreat.Oct.Sx
namespace Go.Proofs.YtaijfhadecennaaGreat.Oct.Sx
open Go.RowKit
def Agr (B:Nat) (lab lab':Nat->Nat):Prop:=∀k,k<B->lab' k=lab k
theorem Agr.relab (B i:Nat) (lab:Nat->Nat):Agr B lab (relab lab B i):=fun _ h=>zB h
def SpaL (w:World) (q:Nat) (P:List Int) (lab:Nat->Nat) (i:Nat):Prop:=∃F,Sps.Spa w q F P/\∀k,F k->lab k=i
def RowL (w:World) (a:Option Addr) (n c:Nat) (zs:List Int) (lab:Nat->Nat) (i:Nat):Prop:=OwnI 0 w (.slice a n c) zs/\∀k,obl a k->lab k=i
def UsR (w:World) (a:Option Addr) (c:Nat) (zs:List Int) (lab:Nat->Nat):Prop:=Row w a c zs/\(zs=[]\/∃x,a=some x/\10<=lab x.block/\x.block<w.heap.size)
section
variable {w w' w0:World} {lab lab':Nat->Nat} {i j:Nat}
theorem SpaL.keep {q:Nat} {P:List Int} (h:SpaL w q P lab i) (t:Trn lab j w w') (hne:i≠j) (g:Agr w.heap.size lab lab'):SpaL w' q P lab' i:=by
 obtain ⟨F,h1,h2⟩:=h;have hl:=JA h1;exact ⟨F,zH h1 t.size (fun k hk=>t.block (hl k hk) (by rw [h2 k hk];exact hne)),fun k hk=>by rw [g k (hl k hk)];exact h2 k hk⟩
theorem RowL.keep {a:Option Addr} {n c:Nat} {zs:List Int} (h:RowL w a n c zs lab i) (t:Trn lab j w w') (hne:i≠j) (g:Agr w.heap.size lab lab'):RowL w' a n c zs lab' i:=by
 have hl:∀k,obl a k->k<w.heap.size:=fun k hk=>(World.ownsRow.lt h.1 k (zI hk)).2
 exact ⟨OwnI.keepO h.1 (fun k hk=>t.block (hl k hk) (by rw [h.2 k hk];exact hne)),fun k hk=>by rw [g k (hl k hk)];exact h.2 k hk⟩
theorem UsR.keep {a:Option Addr} {c:Nat} {zs:List Int} (h:UsR w a c zs lab) (t:Trn lab j w w') (hj:j<=9) (g:Agr w.heap.size lab lab'):UsR w' a c zs lab':=by
 obtain ⟨h1,h2⟩:=h;rcases h2 with e|⟨x,e,h3,h4⟩
 ·exact ⟨⟨h1.1,h1.2.1,h1.2.2.1,.inl e⟩,.inl e⟩
 ·refine ⟨⟨h1.1,h1.2.1,h1.2.2.1,?_⟩,.inr ⟨x,e,by rw [g _ h4];exact h3,qA h4 t.size⟩⟩;rcases h1.2.2.2 with e2|⟨b,off,e2,hc⟩
  ·exact .inl e2
  ·rw [e] at e2;cases e2;exact .inr ⟨b,off,e,fun k hk=>(World.cell?_of_block (w:=w) (t.block (k:=b) h4 (by simp only at h3;omega))).trans (hc k hk)⟩
structure LbC (w0 w:World) (F0:Nat->Prop) (lab:Nat->Nat):Prop where
 old:∀k,lab k<=9->F0 k\/w0.heap.size<=k
 ch:Ch w0.heap.size F0 w0 w
theorem LbC.turn {F0:Nat->Prop} (h:LbC w0 w F0 lab) (t:Trn lab j w w') (hj:j<=9) (g:Agr w.heap.size lab lab'):LbC w0 w' F0 lab':=by
 have hs:=h.ch.size;refine ⟨fun k hk=>?_,h.ch.trans (t.mono hs (fun k hk e=>?_))⟩
 ·by_cases hlt:k<w.heap.size
  ·rw [g k hlt] at hk;exact h.old k hk
  ·exact .inr (by omega)
 ·rcases h.old k (by omega) with e2|e2
  ·exact e2
  ·omega
theorem LbC.base {w1:World} {F0:Nat->Prop} (h:LbC w1 w (fun k=>lab' k<=9) lab) (h0:LbC w0 w1 F0 lab'):LbC w0 w F0 lab:=by
 have hs:=h0.ch.size;refine ⟨fun k hk=>?_,h0.ch.trans (h.ch.mono hs (fun k hk e=>?_))⟩
 ·rcases h.old k hk with e|e
  ·exact h0.old k e
  ·exact .inr (by omega)
 ·rcases h0.old k e with e2|e2
  ·exact e2
  ·omega
section
variable {s d p sp c cC:Nat} {aC:Option Addr} {X:St}
theorem StoC.keepL (h:StoC w s d p sp aC cC lab X) (hi:4<=i) (t:Trn lab i w w') (g:Agr w.heap.size lab lab'):StoC w' s d p sp aC cC lab' X:=by
 obtain ⟨F1,p1,p2⟩:=h.pool;obtain ⟨F2,q1,q2⟩:=h.space;have l1:=p1.lt;have l2:=JA q1;have kp:∀k,k<w.heap.size->lab k<=3->w'.heap[k]?=w.heap[k]?:=fun k hk hl=>t.block hk (by omega)
 have hlt:=h.lt;have hcl:∀k,obl aC k->k<w.heap.size:=fun k hk=>(World.ownsRow.lt h.ch k (zI hk)).2
 exact ⟨(kp s hlt (by rw [h.l0];omega)).trans h.cells,by rw [g _ hlt];exact h.l0,⟨F1,p1.keep t.size (fun k hk=>kp k (l1 k hk) (by rw [p2 k hk];omega)),fun k hk=>by rw [g _ (l1 k hk)];exact p2 k hk⟩,
  ⟨F2,zH q1 t.size (fun k hk=>kp k (l2 k hk) (by rw [q2 k hk];omega)),fun k hk=>by rw [g _ (l2 k hk)];exact q2 k hk⟩,
  yQ h.ch (fun k hk=>kp k (hcl k (zC hk)) (by rw [h.lc k (zC hk)];omega)),fun k hk=>by rw [g _ (hcl k hk)];exact h.lc k hk⟩
def cmC (s:Nat) (vS:Value) (S:Sp) (vC vT vB:Value) (bg:Bool):Array Value:= #[.pointer (some ⟨s,0,none⟩),vS,.int .i64 S.g,.int .i64 S.p,.int .i64 S.r,.int .i64 S.h,.int .i64 S.b,.int .i64 S.l,.int .i64 S.s,.int .i64 S.f,vC,vT,vB,.bool bg]
structure CmC (w0 w:World) (F0:Nat->Prop) (s d p sp c:Nat) (aC:Option Addr) (cC:Nat) (lab:Nat->Nat) (X:St) (aS:Option Addr) (cS:Nat) (zs:List Int) (S:Sp) (vC vT vB:Value) (bg:Bool):Prop where
 sto:StoC w s d p sp aC cC lab X
 lb:LbC w0 w F0 lab
 us:UsR w aS cS zs lab
 cm:w.heap[c]?=some (.cells (cmC s (.slice aS zs.length cS) S vC vT vB bg) 115 (0,0))
 lc:lab c=4
variable {F0:Nat->Prop} {aS:Option Addr} {cS:Nat} {zs:List Int} {S:Sp} {vC vT vB:Value} {bg:Bool}
theorem CmC.keep (h:CmC w0 w F0 s d p sp c aC cC lab X aS cS zs S vC vT vB bg) (h5:5<=i) (h9:i<=9) (t:Trn lab i w w') (g:Agr w.heap.size lab lab'):CmC w0 w' F0 s d p sp c aC cC lab' X aS cS zs S vC vT vB bg:=
 have hl:=yR h.cm
 ⟨h.sto.keepL (by omega) t g,h.lb.turn t h9 g,h.us.keep t h9 g,(t.block hl (by rw [h.lc];omega)).trans h.cm,by rw [g _ hl];exact h.lc⟩
theorem CmC.cell (h:CmC w0 w F0 s d p sp c aC cC lab X aS cS zs S vC vT vB bg) (k:Nat):w.cell? ⟨c,k,none⟩=(cmC s (.slice aS zs.length cS) S vC vT vB bg)[k]?:=cell_of_row w _ _ _ _ (0,0) h.cm
theorem CmC.frz (h:CmC w0 w F0 s d p sp c aC cC lab X aS cS zs S vC vT vB bg) (k:Nat):w.frozen? ⟨c,k,none⟩=false:=by unfold World.frozen?;rw [h.cm];simp
theorem CmC.at (h:CmC w0 w F0 s d p sp c aC cC lab X aS cS zs S vC vT vB bg):w.cell? ⟨c,0,none⟩=some (.pointer (some ⟨s,0,none⟩))/\w.cell? ⟨c,1,none⟩=some (.slice aS zs.length cS)/\w.cell? ⟨c,10,none⟩=some vC/\w.cell? ⟨c,11,none⟩=some vT/\w.cell? ⟨c,12,none⟩=some vB/\w.cell? ⟨c,13,none⟩=some (.bool bg):=by
 refine ⟨?_,?_,?_,?_,?_,?_⟩
 all_goals (rw [h.cell];rfl)
theorem CmC.set (h:CmC w0 w F0 s d p sp c aC cC lab X aS cS zs S vC vT vB bg) (hc:Ch w.heap.size (fun k=>k=c) w w') (g:Agr w.heap.size lab lab') {S':Sp} {vC' vT' vB':Value} {bg':Bool} (hb:w'.heap[c]?=some (.cells (cmC s (.slice aS zs.length cS) S' vC' vT' vB' bg') 115 (0,0))):CmC w0 w' F0 s d p sp c aC cC lab' X aS cS zs S' vC' vT' vB' bg':=
 have hl:=yR h.cm;have t:Trn lab 4 w w':=Trn.ch hc (fun k hk=>by rw [hk];exact h.lc)
 ⟨h.sto.keepL (by omega) t g,h.lb.turn t (by omega) g,h.us.keep t (by omega) g,hb,by rw [g _ hl];exact h.lc⟩
end
end
end Go.Proofs.YtaijfhadecennaaGreat.Oct.Sx
namespace Go.Proofs.YtaijfhadecennaaGreat.Oct.Sx
open Go.RowKit
structure CmT (w0 w:World) (F0:Nat->Prop) (s d p sp c:Nat) (aC:Option Addr) (cC:Nat) (lab:Nat->Nat) (X:St) (aS:Option Addr) (cS:Nat) (zs:List Int) (S:Sp) (bg:Bool) (q1:Nat) (P1:List Int) (q2:Nat) (P2:List Int) (aP:Option Addr) (cP:Nat) (pgs:List Int):Prop where
 cm:CmC w0 w F0 s d p sp c aC cC lab X aS cS zs S (.slice aP pgs.length cP) (.pointer (some ⟨q1,0,none⟩)) (.pointer (some ⟨q2,0,none⟩)) bg
 tk:SpaL w q1 P1 lab 5
 bh:SpaL w q2 P2 lab 6
 pg:RowL w aP pgs.length cP pgs lab 7
def RoE (w0:World) (F0:Nat->Prop) (s d p sp c:Nat) (aC:Option Addr) (cC:Nat) (X:St) (aS:Option Addr) (cS:Nat) (zs:List Int) (g n:Int) (e:Ending) (w':World):Prop:=
 let a:=ned zs.length
 let m:=a+ned ((X.P.length+7)/8)
 (m<=X.P.count 0/\e=.returned (.int .i64 0)/\∃lab q1 q2 aP cP,CmT w0 w' F0 s d p sp c aC cC lab X aS cS zs (sup g n (hd0 ((tkG m X.P).take a)) (hd0 ((tkG m X.P).drop a))) false q1 (tkS m X.P) q2 (gvA (tkS m X.P) X.C) aP cP (tkG m X.P))\/
 (¬m<=X.P.count 0/\e=.returned (.int .i64 6)/\∃lab,CmC w0 w' F0 s d p sp c aC cC lab X aS cS zs (sup g n 0 0) (.slice none 0 0) (.pointer none) (.pointer none) false)
theorem XI {w:World} {base n c:Nat} {a:Option Addr} {zs:List Int} (h:OwnI base w (.slice a n c) zs) (hz:0<zs.length):∃g,a=some ⟨g,0,none⟩:=by
 obtain ⟨h1,⟨h',_⟩|⟨g',cap',cur,h',_⟩⟩:=h
 ·simp at h1;simp at h';omega
 ·simp only [Value.slice.injEq] at h';exact ⟨g',h'.1⟩
def rel2 (lab:Nat->Nat) (B g i j:Nat) (k:Nat):Nat:=if k<B then lab k else if k=g then i else j
theorem Agr.rel2 (B g i j:Nat) (lab:Nat->Nat):Agr B lab (rel2 lab B g i j):=fun _ h=>if_pos h
section
variable {w0 w:World} {F0:Nat->Prop} {s d p sp c cC cS:Nat} {aC aS:Option Addr} {X:St} {zs:List Int} {lab:Nat->Nat}
set_option maxRecDepth 20000 in
theorem FX {g n:Int} (h:CmC w0 w F0 s d p sp c aC cC lab X aS cS zs (sup g n 0 0) (.slice none 0 0) (.pointer none) (.pointer none) false) (hz:zs.length<=1048576) (hC:∀z∈X.C,0<=z/\z<=4096):
  Calls prog 131 #[.pointer (some ⟨c,0,none⟩)] w (RoE w0 F0 s d p sp c aC cC X aS cS zs g n):=by
 obtain ⟨c0,c1,c10,c11,c12,c13⟩:=h.at;obtain ⟨Fs,hs1,hs2⟩:=h.sto.space;have s2:=h.sto.at.2.2.1;have hcl:=Sps.clone_any hs1;have H0:Hid (CmC w0 w F0 s d p sp c aC cC lab X aS cS zs (sup g n 0 0) (.slice none 0 0) (.pointer none) (.pointer none) false/\(∀z∈X.C,0<=z/\z<=4096)):=⟨h,hC⟩;have hN:8<=X.P.length/\X.P.length<=4096:=⟨(FZ hs1).lo,(FZ hs1).hi⟩;clear h hC hs1 hs2 c10 c11 c12 c13;have hnd1:=fun (wx:World)=>Chs.Need_v (zs.length:Int) wx (by omega) (by omega)
 have hnd2:=fun (wx:World)=>Chs.Need_v (((X.P.length+7)/8:Nat):Int) wx (by omega) (by omega)
 rw [YJ] at hnd1 hnd2;obtain ⟨a,ha⟩:∃a,ned zs.length=a:=⟨_,rfl⟩;obtain ⟨b,hb⟩:∃b,ned ((X.P.length+7)/8)=b:=⟨_,rfl⟩;have ha1:a<=4300:=by rw [<-ha];unfold ned;omega
 have hb1:b<=3/\0<b:=by rw [<-hb];unfold ned;omega
 rw [ha] at hnd1;rw [hb] at hnd2;have HA:Hid (ned zs.length=a/\ned ((X.P.length+7)/8)=b):=⟨ha,hb⟩;clear ha hb;go_enter func131,ntmps131
 go_wp2_with (first
  |(go_at_call 62;refine hcl.mono ?_;rintro e w1 ⟨q1,F1,rfl,k1,k2,k3⟩
    have H1:Hid (CmC w0 w1 F0 s d p sp c aC cC (relab lab w.heap.size 5) X aS cS zs (sup g n 0 0) (.slice none 0 0) (.pointer none) (.pointer none) false/\SpaL w1 q1 X.P (relab lab w.heap.size 5) 5):=⟨H0.out.1.keep (i:=5) (by decide) (by decide) (Trn.below k2) (Agr.relab _ _ _),F1,k1,fun k hk=>JH (k3 k hk)⟩;have c1':=H1.out.1.at.2.1;have hbt:=Sps.bits_any k1;clear hcl k1 k2 k3 c0 c1 s2)
  |(go_at_call 90;first|(refine (hnd1 _).mono ?_;rintro e w' ⟨rfl,rfl⟩;clear hnd1)|(refine (hnd2 _).mono ?_;rintro e w' ⟨rfl,rfl⟩;clear hnd2))
  |(go_at_call 91;refine hbt.mono ?_;rintro e w2 ⟨g2,cb2,rfl,-,k2⟩
    have H2:Hid (∃lab,CmC w0 w2 F0 s d p sp c aC cC lab X aS cS zs (sup g n 0 0) (.slice none 0 0) (.pointer none) (.pointer none) false/\SpaL w2 q1 X.P lab 5):=⟨_,H1.out.1.keep (i:=9) (by decide) (by decide) (Trn.below k2) (Agr.relab _ 9 _),H1.out.2.keep (j:=9) (Trn.below k2) (by decide) (Agr.relab _ _ _)⟩;obtain ⟨lab2,hc2,hsp2⟩:=H2.out;obtain ⟨F2,hF2,hl2⟩:=hsp2;have htk:=take_any hF2 (a+b) (by omega);rw [Int.natCast_add] at htk;have HF2:Hid (CmC w0 w2 F0 s d p sp c aC cC lab2 X aS cS zs (sup g n 0 0) (.slice none 0 0) (.pointer none) (.pointer none) false/\Sps.Spa w2 q1 F2 X.P/\∀k,F2 k->lab2 k=5):=⟨hc2,hF2,hl2⟩;clear hbt c1' k2 hc2 hF2 hl2))
 refine htk.mono ?_;clear htk;rintro e w3 ⟨⟨F3a,⟨P3,hs3a⟩,st3a⟩,⟨hm,aP,cP,rfl,ho,F3,h3,st3,hn3⟩|⟨hm,rfl⟩⟩
 ·obtain ⟨gp,rfl⟩:=XI ho (by rw [zA];omega);obtain ⟨m,hmm⟩:∃m,a+b=m:=⟨_,rfl⟩;rw [hmm] at hm ho h3;have hgp:=(World.ownsRow.lt ho gp rfl).1;obtain ⟨_,hF2,hl2⟩:=HF2.out;have t3:Trn lab2 5 w2 w3:=Trn.of st3 hl2
  have H3:Hid (∃lab,CmC w0 w3 F0 s d p sp c aC cC lab X aS cS zs (sup g n 0 0) (.slice none 0 0) (.pointer none) (.pointer none) false/\SpaL w3 q1 (tkS m X.P) lab 5/\RowL w3 (some ⟨gp,0,none⟩) m cP (tkG m X.P) lab 7):=by
   refine ⟨rel2 lab2 w2.heap.size gp 7 5,HF2.out.1.keep (by decide) (by decide) t3 (Agr.rel2 _ _ _ _ _),⟨F3,h3,fun k hk=>?_⟩,yX ho (fun _ _=>jT _),fun k hk=>?_⟩
   ·unfold rel2;by_cases hlt:k<w2.heap.size
    ·rw [if_pos hlt];rcases st3.2 k hk with e|e
     ·exact hl2 k e
     ·omega
    ·rw [if_neg hlt,if_neg (fun e=>hn3 k ⟨_,rfl,e.symm⟩ hk)]
   ·obtain ⟨x,e,hx⟩:=hk;cases e;subst hx;unfold rel2;rw [if_neg (Nat.not_lt.2 hgp),if_pos rfl]
  have HM:Hid (a+b=m/\m<=X.P.count 0):=⟨hmm,hm⟩;clear HF2 hs3a st3a ho h3 st3 hn3 hF2 hl2 t3 hgp hm hmm H1 H2;obtain ⟨lab3,a3,b3,c3⟩:=H3.out;have hhp:=held_nil w3 s (by rw [a3.sto.cell];rfl);have HL3:Hid (_/\_/\_):=⟨a3,b3,c3⟩;clear H3 a3 b3 c3
  go_wp2_with (first
   |(go_at_call 73;refine hhp.mono ?_;rintro e w4 ⟨rfl,k4⟩
     have H4:Hid (∃lab,CmC w0 w4 F0 s d p sp c aC cC lab X aS cS zs (sup g n 0 0) (.slice none 0 0) (.pointer none) (.pointer none) false/\SpaL w4 q1 (tkS m X.P) lab 5/\RowL w4 (some ⟨gp,0,none⟩) m cP (tkG m X.P) lab 7):=⟨_,HL3.out.1.keep (i:=9) (by decide) (by decide) (Trn.below k4) (Agr.relab _ 9 _),HL3.out.2.1.keep (j:=9) (Trn.below k4) (by decide) (Agr.relab _ _ _),HL3.out.2.2.keep (j:=9) (Trn.below k4) (by decide) (Agr.relab _ _ _)⟩;obtain ⟨lab4,a4,⟨F4,b4,l4⟩,c4⟩:=H4.out;have hga:=YM b4 none 0 0 [] ⟨jB _,by decide,.inl rfl⟩ rfl (fun _ h=>(by cases h)) (fun k ⟨x,e,_⟩=>(by cases e));have HL4:Hid (_/\_/\_/\_):=⟨a4,l4,c4,JA b4⟩;clear H4 HL3 hhp k4 a4 b4 c4 l4)
   |(go_at_call 72;refine hga.mono ?_;rintro e w5 ⟨rfl,F5,h5,st5⟩
     have H5:Hid (∃lab,CmC w0 w5 F0 s d p sp c aC cC lab X aS cS zs (sup g n 0 0) (.slice none 0 0) (.pointer none) (.pointer none) false/\SpaL w5 q1 (tkS m X.P) lab 5/\RowL w5 (some ⟨gp,0,none⟩) m cP (tkG m X.P) lab 7):=⟨_,HL4.out.1.keep (i:=5) (by decide) (by decide) (Trn.of st5 HL4.out.2.1) (Agr.relab _ 5 _),⟨F5,h5,Trn.foot st5 HL4.out.2.1 HL4.out.2.2.2⟩,HL4.out.2.2.1.keep (j:=5) (Trn.of st5 HL4.out.2.1) (by decide) (Agr.relab _ _ _)⟩;obtain ⟨lab5,a5,b5,c5⟩:=H5.out;have b6:=b5;obtain ⟨F5b,b7,l5⟩:=b6;have hcl:=Sps.clone_any b7;have HL5:Hid (_/\_/\_):=⟨a5,b5,c5⟩;clear H5 HL4 hga h5 st5 a5 b5 c5 l5 b7)
   |(go_at_call 62;refine hcl.mono ?_;rintro e w6 ⟨q2,F6,rfl,h6,k6,l6⟩
     have H6:Hid (∃lab,CmC w0 w6 F0 s d p sp c aC cC lab X aS cS zs (sup g n 0 0) (.slice none 0 0) (.pointer none) (.pointer none) false/\SpaL w6 q1 (tkS m X.P) lab 5/\SpaL w6 q2 (tkS m X.P) lab 6/\RowL w6 (some ⟨gp,0,none⟩) m cP (tkG m X.P) lab 7):=⟨_,HL5.out.1.keep (i:=6) (by decide) (by decide) (Trn.below k6) (Agr.relab _ 6 _),HL5.out.2.1.keep (j:=6) (Trn.below k6) (by decide) (Agr.relab _ _ _),⟨F6,h6,fun k hk=>JH (l6 k hk)⟩,HL5.out.2.2.keep (j:=6) (Trn.below k6) (by decide) (Agr.relab _ _ _)⟩;obtain ⟨lab6,a6,b6,d6,c6⟩:=H6.out;obtain ⟨_,_,x10,x11,x12,_⟩:=a6.at;have fz:=a6.frz;have HL6:Hid (_/\_/\_/\_):=⟨a6,b6,d6,c6⟩;clear H6 HL5 hcl h6 k6 l6 a6 b6 d6 c6))
  obtain ⟨w7,hw7⟩:∃w7,((w6.setCell ⟨c,10,none⟩ (.slice (some ⟨gp,0,none⟩) (a+b) cP)).setCell ⟨c,11,none⟩ (.pointer (some ⟨q1,0,none⟩))).setCell ⟨c,12,none⟩ (.pointer (some ⟨q2,0,none⟩))=w7:=⟨_,rfl⟩;rw [hw7]
  have H7:Hid (∃lab,CmC w0 w7 F0 s d p sp c aC cC lab X aS cS zs (sup g n 0 0) (.slice (some ⟨gp,0,none⟩) m cP) (.pointer (some ⟨q1,0,none⟩)) (.pointer (some ⟨q2,0,none⟩)) false/\SpaL w7 q1 (tkS m X.P) lab 5/\SpaL w7 q2 (tkS m X.P) lab 6/\RowL w7 (some ⟨gp,0,none⟩) m cP (tkG m X.P) lab 7):=by
   obtain ⟨a6,b6,d6,c6⟩:=HL6.out
   have hc7:Ch w6.heap.size (fun k=>k=c) w6 w7:=by
    rw [<-hw7];exact (((Ch.refl w6.heap.size (fun k=>k=c) w6).setCell (p:=⟨c,10,none⟩) (.inr rfl) _).setCell (p:=⟨c,11,none⟩) (.inr rfl) _).setCell (p:=⟨c,12,none⟩) (.inr rfl) _
   have hb7:w7.heap[c]?=some (.cells (cmC s (.slice aS zs.length cS) (sup g n 0 0) (.slice (some ⟨gp,0,none⟩) m cP) (.pointer (some ⟨q1,0,none⟩)) (.pointer (some ⟨q2,0,none⟩)) false) 115 (0,0)):=by
    rw [<-hw7,yO _ _ _ _ _ _ _ (yO _ _ _ _ _ _ _ (yO _ _ _ _ _ _ _ a6.cm)),HM.out.1];rfl
   have t7:Trn lab6 4 w6 w7:=Trn.ch hc7 (fun k hk=>by rw [hk];exact a6.lc);exact ⟨lab6,a6.set hc7 (fun _ _=>rfl) hb7,b6.keep t7 (by decide) (fun _ _=>rfl),d6.keep t7 (by decide) (fun _ _=>rfl),c6.keep t7 (by decide) (fun _ _=>rfl)⟩
  clear HL6 hw7 x10 x11 x12 fz;obtain ⟨lab7,a7,b7,⟨F7,d7,l7⟩,c7⟩:=H7.out;have x12:=a7.at.2.2.2.2.1;have y12:=a7.sto.at.2.2.2.2.1
  have hrw:RowI w7.drew aC cC X.C:=by
   obtain ⟨a',c',e,hr⟩:=a7.sto.ch.row;simp only [Value.slice.injEq,true_and] at e;obtain ⟨rfl,rfl⟩:=e;exact hr
  have d7':Sps.Spa w7.drew q2 F7 (tkS m X.P):=zH d7 (jB _) (fun _ _=>rfl);have hl7:=JA d7;have hga:=YM d7' aC cC X.C.length X.C hrw rfl H0.out.2 (fun k hk=>⟨(World.ownsRow.lt a7.sto.ch k (zI hk)).2,fun e=>by have h1:=l7 k e;have h2:=a7.sto.lc k hk;omega⟩);have HL7:Hid (_/\_/\_/\_/\_):=⟨a7,b7,c7,l7,hl7⟩;clear H7 a7 b7 c7 l7 hl7 d7 d7' hrw
  go_region_held3 (fun w'=>w'.cell? ⟨c,12,none⟩=some (.pointer (some ⟨q2,0,none⟩))/\w'.cell? ⟨s,12,none⟩=some (.slice aC X.C.length cC)) (first|go_keep|exact ⟨by assumption,by assumption⟩) (first
   |(go_at_call 72;refine hga.mono ?_;rintro e w8 ⟨rfl,F8,h8,st8'⟩
     have st8:=st8'.undrew;have t8:=Trn.of st8 HL7.out.2.2.2.1;have H8:Hid (∃lab,CmC w0 w8 F0 s d p sp c aC cC lab X aS cS zs (sup g n 0 0) (.slice (some ⟨gp,0,none⟩) m cP) (.pointer (some ⟨q1,0,none⟩)) (.pointer (some ⟨q2,0,none⟩)) false/\SpaL w8 q1 (tkS m X.P) lab 5/\SpaL w8 q2 (gvA (tkS m X.P) X.C) lab 6/\RowL w8 (some ⟨gp,0,none⟩) m cP (tkG m X.P) lab 7):=⟨_,HL7.out.1.keep (i:=6) (by decide) (by decide) t8 (Agr.relab _ 6 _),HL7.out.2.1.keep t8 (by decide) (Agr.relab _ _ _),⟨F8,h8,Trn.foot st8 HL7.out.2.2.2.1 HL7.out.2.2.2.2⟩,HL7.out.2.2.1.keep t8 (by decide) (Agr.relab _ _ _)⟩;obtain ⟨lab8,a8,b8,d8,c8⟩:=H8.out;have x12':=a8.at.2.2.2.2.1;have y12':=a8.sto.at.2.2.2.2.1;have HL8:Hid (_/\_/\_/\_):=⟨a8,b8,d8,c8⟩;clear H8 HL7 hga h8 st8 st8' t8 a8 b8 d8 c8))
  obtain ⟨a8,b8,d8,c8⟩:=HL8.out
  have hcell:∀i,i<m->w8.cell? ⟨gp,i,none⟩=some (.int .i64 ((tkG m X.P).getD i 0)):=fun i hi=>by
   obtain ⟨a',c',e,hr⟩:=OwnI.row (base:=0) (w:=w8) (v:=.slice (some ⟨gp,0,none⟩) m cP) c8.1;simp only [Value.slice.injEq] at e;obtain ⟨rfl,_,rfl⟩:=e;obtain ⟨b',off',e2,hc⟩:=hr.at' i (by rw [zA];exact hi);simp only [jQ,Addr.mk.injEq,and_true] at e2;obtain ⟨rfl,rfl⟩:=e2;rw [qT] at hc;exact hc
  have hm1:=HM.out.1;have r0:=hcell 0 (by omega);have ra:=hcell a (by omega);have y8:w8.cell? ⟨c,8,none⟩=some (.int .i64 0):=by rw [a8.cell];rfl
  have y9:w8.cell? ⟨c,9,none⟩=some (.int .i64 0):=by rw [a8.cell];rfl
  have fz:=a8.frz
  have hcg:¬gp=c:=fun e=>by
   have h1:=c8.2 gp ⟨_,rfl,rfl⟩;have h2:=a8.lc;rw [e] at h1;omega
  obtain ⟨z0,hz0⟩:∃z,(tkG m X.P).getD 0 0=z:=⟨_,rfl⟩;obtain ⟨za,hza⟩:∃z,(tkG m X.P).getD a 0=z:=⟨_,rfl⟩;rw [hz0] at r0;rw [hza] at ra
  have HZ:Hid (hd0 ((tkG m X.P).drop a)=za/\(0<a->hd0 ((tkG m X.P).take a)=z0)/\(a=0->hd0 ((tkG m X.P).take a)=0)):=by
   refine ⟨?_,fun h=>?_,fun h=>by rw [h];rfl⟩
   ·unfold hd0;rw [jA,qO,<-jA];exact hza
   ·unfold hd0;rw [jA,List.getElem?_take_of_lt h,<-jA];exact hz0
  have hi0:(0:Int)<((a+b:Nat):Int):=by omega
  have hia:(a:Int)<((a+b:Nat):Int):=by omega
  clear a8 b8 d8 c8 hcell hz0 hza x12 y12 x12' y12' hm1
  have HFin:Hid (∀w9,Ch w8.heap.size (fun k=>k=c) w8 w9->w9.heap[c]?=some (.cells (cmC s (.slice aS zs.length cS) (sup g n (hd0 ((tkG m X.P).take a)) (hd0 ((tkG m X.P).drop a))) (.slice (some ⟨gp,0,none⟩) m cP) (.pointer (some ⟨q1,0,none⟩)) (.pointer (some ⟨q2,0,none⟩)) false) 115 (0,0))->RoE w0 F0 s d p sp c aC cC X aS cS zs g n (.returned (.int .i64 0)) w9):=by
   intro w9 hc9 hb9;obtain ⟨a8,b8,d8,c8⟩:=HL8.out;have t9:Trn lab8 4 w8 w9:=Trn.ch hc9 (fun k hk=>by rw [hk];exact a8.lc);have k1:=a8.set hc9 (fun _ _=>rfl) hb9;have k2:=b8.keep t9 (by decide) (fun _ _=>rfl);have k3:=d8.keep t9 (by decide) (fun _ _=>rfl);have k4:=c8.keep t9 (by decide) (fun _ _=>rfl);obtain ⟨hA,hB⟩:=HA.out;obtain ⟨hM,hle⟩:=HM.out;refine .inl ⟨by rw [hA,hB,hM];exact hle,rfl,lab8,q1,q2,some ⟨gp,0,none⟩,cP,?_⟩;rw [hA,hB,hM];refine ⟨?_,k2,k3,?_⟩
   ·rw [zA];exact k1
   ·rw [zA];exact k4
  have HCM:Hid (w8.heap[c]?=some (.cells (cmC s (.slice aS zs.length cS) (sup g n 0 0) (.slice (some ⟨gp,0,none⟩) m cP) (.pointer (some ⟨q1,0,none⟩)) (.pointer (some ⟨q2,0,none⟩)) false) 115 (0,0))):=HL8.out.1.cm;clear HL8;by_cases ha0:0<a
  ·have hgt:decide ((a:Int)>0)=true:=jE (by omega);go_wp2_with fail
   go_ret
   refine HFin.out _ (((Ch.refl w8.heap.size (fun k=>k=c) w8).setCell (p:=⟨c,8,none⟩) (.inr rfl) _).setCell (p:=⟨c,9,none⟩) (.inr rfl) _) ?_;rw [yO _ _ _ _ _ _ _ (yO _ _ _ _ _ _ _ HCM.out),HZ.out.1,HZ.out.2.1 ha0];rfl
  ·have hgt:decide ((a:Int)>0)=false:=jH (by omega);go_wp2_with fail
   go_ret
   refine HFin.out _ ((Ch.refl w8.heap.size (fun k=>k=c) w8).setCell (p:=⟨c,9,none⟩) (.inr rfl) _) ?_;rw [yO _ _ _ _ _ _ _ HCM.out,HZ.out.1,HZ.out.2.2 (by omega)];rfl
 ·have HE:Hid (∃lab,CmC w0 w3 F0 s d p sp c aC cC lab X aS cS zs (sup g n 0 0) (.slice none 0 0) (.pointer none) (.pointer none) false):=⟨_,HF2.out.1.keep (by decide) (by decide) (Trn.of st3a HF2.out.2.2) (Agr.relab _ 5 _)⟩;clear HF2 hs3a st3a H1 H2;go_wp2_with fail
  go_ret
  refine .inr ⟨?_,rfl,HE.out⟩;rw [HA.out.1,HA.out.2];exact hm
end
end Go.Proofs.YtaijfhadecennaaGreat.Oct.Sx
