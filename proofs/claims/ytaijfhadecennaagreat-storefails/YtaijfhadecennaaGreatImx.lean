/- Part of a proof. -/
import Derived.Test.YtaijfhadecennaaGreatIn
import Derived.Test.YtaijfhadecennaaGreatEmx
import Derived.Test.YtaijfhadecennaaGreatEms
import Derived.Test.YtaijfhadecennaaGreatEaa
import Derived.Test.YtaijfhadecennaaGreatUf
import Derived.Laws.ResultCell
import Derived.Laws.Tables
import Derived.Test.YtaijfhadecennaaGreatEma
import Derived.Deep.DeepCutAuto
import Derived.Deep.CutBlock
open Go.Proofs.Tryz
set_option maxHeartbeats 4000000
namespace Go.Proofs.YtaijfhadecennaaGreat.Oct
open Go.RowKit
attribute [local go_sem ↓] YL YQ
section
variable {w:World} {p d m e N:Nat} {Fd F:Nat->Prop} {D:Dv} {bs:List Nat} {fr:Nat->Fr} {ol nw:Nat->Nat}
def Pin1N (p d N:Nat) (F:Nat->Prop) (D:Dv) (L:List Fr) (pg rb:Nat) (w:World) (k:Int) (w':World):Prop:=
 k=usE D N L pg true/\(∃F',Pool w' p d F' (usD D N L pg true) N (pnL D N L pg)/\(∀j,F' j->F j\/w.heap.size<=j)/\∀g c,w'.cell? ⟨rb,0,none⟩=some (.slice (some ⟨g,0,none⟩) 256 c)->¬F' g)/\Ch w.heap.size (fun j=>F j\/j=rb) w w'/\
 ((k=0/\∃g c,CellAt w' rb (.slice (some ⟨g,0,none⟩) 256 c) 32/\Own w.heap.size w' (.slice (some ⟨g,0,none⟩) 256 c) (pnB D N L pg))\/(¬k=0/\CellAt w' rb (.slice none 0 0) 32))
set_option maxRecDepth 20000 in
theorem pin1_new (h:PD w p d m e N Fd F D bs fr ol nw) (hops:D.ops<=1000000000) (hs:D.since.length<=1000000) (hpn:∀f∈bs.map fr,f.pins<=1000000) (pg:Nat) (hpg:pg<D.n) (rp rg rb:Nat)
  (hp:CellAt w rp (.pointer (some ⟨p,0,none⟩)) 73) (hg:CellAt w rg (.int .i64 pg) 3) (hb:CellAt w rb (.slice none 0 0) 32) (hbF:¬F rb):
  Calls prog 126 #[.pointer (some ⟨rp,0,none⟩),.pointer (some ⟨rg,0,none⟩),.pointer (some ⟨rb,0,none⟩)] w fun x w'=>∃k,CEnd k x/\Pin1N p d N F D (bs.map fr) pg rb w k w':=by
 have hmf:∀(fn:Fn) (first cap:Array Value) (w:World),(Instr.makeFunc fn first cap).run prog w=.ok (.func fn first cap) w:=fun _ _ _ _=>rfl
 obtain ⟨p1,_⟩:=hp.at;obtain ⟨g1,_⟩:=hg.at;have hu:=usePin_any h hops hs pg hpg;have hrl:=hb.lt;have HB:Hid (CellAt w rb (.slice none 0 0) 32):=hb;have HPN:Hid (∀f∈bs.map fr,f.pins<=1000000):=hpn;clear h hp hg hb hpn;go_enter func126,ntmps126
 go_wp2_with fail
 refine hu.mono ?_;clear hu;rintro x w1 ⟨m1,e1,Fd1,F1,bs1,fr1,ol1,nw1,h1,hL,hst,hx⟩;have hb1:CellAt w1 rb (.slice none 0 0) 32:=HB.out.keep (hst.1.block rb hrl hbF);rcases hx with ⟨hE,g,cs,rfl,rfl⟩|⟨hE,rfl⟩
 ·have hgm:g∈cs++[g]:=by simp
  have hgm':g∈e1::(cs++[g]):=jM _ hgm;have hgF:F1 g:=h1.fp g (.inr (.inr hgm'));have hok:=h1.pool.ok g hgm';obtain ⟨_,_,x2,_,_,xz⟩:=(h1.pool.node g hgm').at hok;have hz2:=xz 258
  have hn:(fr1 g).pins<=1000000:=by
   have:=usL_pins (D:=D) (N:=N) (pg:=pg) (rd:=true) HPN.out (fr1 g);rw [<-hL] at this;exact this (xL hgm)
  have h2:=h1.setPins hgm ((fr1 g).pins+1)
  have hrow:Row (w1.setCell ⟨g,258,none⟩ (.int .i64 ((fr1 g).pins+1:Nat))) (some ⟨g,1,none⟩) 256 (fr1 g).b:=by
   have:=(h2.pool.node g hgm').row (h2.pool.ok g hgm');rw [yV] at this;exact this
  have hcl:=JP ⟨g,1,none⟩ 256 (fr1 g).b _ hrow (by rw [hok.1];decide);rw [hok.1] at hcl
  have hlast:pnL D N (bs.map fr) pg=(cs++[g]).map (upF fr1 g {fr1 g with pins:=(fr1 g).pins+1}):=by
   have hnd:=h1.pool.apart.2.2.2.2.2;unfold pnL;rw [if_pos hE,<-hL,qI,qI,qQ,xR,qQ,xR,QK,yV]
   congr 1
   refine xC (fun y hy=>?_)
   rw [yT _ _ (fun e2=>by
    rw [List.nodup_append] at hnd;exact hnd.2.2 y hy g (by simp) e2)]
  have hbyt:pnB D N (bs.map fr) pg=(fr1 g).b:=by
   unfold pnB;rw [<-hL,qI,qQ,xR];simp
  have hgrb:rb≠g:=fun e2=>by
   rcases hst.2 g hgF with e3|e3
   ·exact hbF (e2▸e3)
   ·omega
  have hrl1:rb<w1.heap.size:=hb1.lt
  have hend:∀w3 gg c,Own (w1.setCell ⟨g,258,none⟩ (.int .i64 ((fr1 g).pins+1:Nat))).heap.size w3 (.slice (some ⟨gg,0,none⟩) 256 c) (fr1 g).b->Below (w1.setCell ⟨g,258,none⟩ (.int .i64 ((fr1 g).pins+1:Nat))).heap.size (w1.setCell ⟨g,258,none⟩ (.int .i64 ((fr1 g).pins+1:Nat))) w3->
    (w3.cell? ⟨rb,0,none⟩=some (.slice none 0 0)/\w3.frozen? ⟨rb,0,none⟩=false)/\Pin1N p d N F D (bs.map fr) pg rb w 0 (w3.setCell ⟨rb,0,none⟩ (.slice (some ⟨gg,0,none⟩) 256 c)):=fun w3 gg c ho hbe=>by
   have hsz:(w1.setCell ⟨g,258,none⟩ (.int .i64 ((fr1 g).pins+1:Nat))).heap.size=w1.heap.size:=yP _ _ _;have hb2:CellAt (w1.setCell ⟨g,258,none⟩ (.int .i64 ((fr1 g).pins+1:Nat))) rb (.slice none 0 0) 32:=hb1.keep (Below.heap_setCell w1 ⟨g,258,none⟩ _ rb hgrb);have hb3:CellAt w3 rb (.slice none 0 0) 32:=hb2.keep (hbe.block rb (by omega));have h3:=h2.below hbe;have lgg:=ho.lt2;refine ⟨hb3.at,hE.symm,⟨F1,⟨Fd1,m1,e1,_,_,ol1,nw1,h3.keep (xS (yP _ _ _).symm) (fun k hk=>Below.heap_setCell w3 ⟨rb,0,none⟩ _ k (fun e2=>?_)),hlast⟩,hst.2,fun g2 c2 hg2 hF2=>?_⟩,?_,.inl ⟨rfl,gg,c,hb3.set _,?_⟩⟩
   ·subst e2;rcases hst.2 _ hk with e3|e3
    ·exact hbF e3
    ·omega
   ·rw [World.cell?_setCell_same _ _ _ hb3.at.1] at hg2;cases hg2;have:=h1.flt _ hF2;omega
   ·have c1:Ch w.heap.size (fun j=>F j\/j=rb) w (w1.setCell ⟨g,258,none⟩ (.int .i64 ((fr1 g).pins+1:Nat))):=(hst.1.mono (jB _) (fun _ _ e=>.inl e)).setCell (p:=⟨g,258,none⟩) (by
     rcases hst.2 g hgF with e3|e3
     ·exact .inr (.inl e3)
     ·exact .inl e3) _
    exact (c1.trans ((Ch.of _ hbe).mono (by have:=hst.1.size;omega) (fun _ _ e=>e))).setCell (p:=⟨rb,0,none⟩) (.inr (.inr rfl)) _
   ·rw [hbyt];have:=yX (ho.kept (w':=w3.setCell ⟨rb,0,none⟩ (.slice (some ⟨gg,0,none⟩) 256 c)) (Below.heap_setCell w3 ⟨rb,0,none⟩ _ gg (fun e2=>by have e3:gg=rb:=e2;omega))) (base':=w.heap.size) (fun k hk=>by simp [Value.ownBlock] at hk;have:=hst.1.size;omega);exact this
  have HE:Hid _:=hend;obtain ⟨zs,hzs⟩:∃zs,(fr1 g).b=zs:=⟨_,rfl⟩;obtain ⟨n,hnn⟩:∃n,(fr1 g).pins=n:=⟨_,rfl⟩;rw [hzs] at HE hcl;rw [hnn] at HE hcl x2 hn;rw [show ((n+1:Nat):Int)=(n:Int)+1 by omega] at HE hcl;clear hend hzs hnn hlast hbyt hrow h2 hok h1 hL hst hE xz hgm hgm' hb1 HPN;go_wp2_with fail
  refine hcl.mono ?_;clear hcl;rintro x w3 ⟨gg,c,rfl,ho,hbe⟩;obtain ⟨⟨y1,y2⟩,hR⟩:=HE.out w3 gg c ho hbe;have HR:Hid (Pin1N p d N F D (bs.map fr) pg rb w 0 (w3.setCell ⟨rb,0,none⟩ (.slice (some ⟨gg,0,none⟩) 256 c))):=hR;clear HE ho hbe hR;go_wp2;go_end0
  exact ⟨0,.inl ⟨rfl,rfl⟩,HR.out⟩
 ·obtain ⟨E,hEE⟩:∃E,usE D N (bs.map fr) pg true=E:=⟨_,rfl⟩;have hR:Pin1N p d N F D (bs.map fr) pg rb w E w1:=⟨hEE.symm,⟨F1,⟨Fd1,m1,e1,bs1,fr1,ol1,nw1,h1,by unfold pnL;rw [if_neg hE,hL]⟩,hst.2,fun g c hg=>by rw [hb1.at.1] at hg;cases hg⟩,hst.1.mono (jB _) (fun _ _ e=>.inl e),.inr ⟨by rw [<-hEE];exact hE,hb1⟩⟩;rw [hEE] at hE ⊢;have HR:Hid (Pin1N p d N F D (bs.map fr) pg rb w E w1):=hR;have HE:Hid (¬E=0):=hE;clear h1 hL hst hb1 hR hE hEE HPN;unfold thrown;go_wp2;exact ⟨rfl,E,.inr ⟨HE.out,rfl⟩,HR.out⟩
end
section
variable {w:World} {p d N:Nat} {F:Nat->Prop} {D:Dv} {L:List Fr}
theorem Pin_new (h:Pool w p d F D N L) (hops:D.ops<=1000000000) (hs:D.since.length<=1000000) (hpn:∀f∈L,f.pins<=1000000) (pg:Nat) (hpg:pg<D.n):
  Calls prog 78 #[.pointer (some ⟨p,0,none⟩),.int .i64 pg] w fun x w'=>PinR D N L pg w x w'/\∃F',Pool w' p d F' (usD D N L pg true) N (pnL D N L pg)/\Step F F' w w'/\∀g c k,x=.returned (.tuple #[.slice (some ⟨g,0,none⟩) 256 c,k])->¬F' g:=by
 obtain ⟨Fd,m,e,bs,fr,ol,nw,h,rfl⟩:=h;have hmf:∀(fn:Fn) (first cap:Array Value) (w:World),(Instr.makeFunc fn first cap).run prog w=.ok (.func fn first cap) w:=fun _ _ _ _=>rfl
 have hF:=h.flt;have hb0:Below w.heap.size w (((w.alloc (.cells #[.pointer (some ⟨p,0,none⟩)] 73)).alloc (.cells #[.int .i64 pg] 3)).alloc (.cells #[.slice none 0 0] 32)):=(((Below.refl _ w).alloc (jB _) _).alloc (by simp) _).alloc (by simp;omega) _;have h0:=h.below hb0;have k1:CellAt (((w.alloc (.cells #[.pointer (some ⟨p,0,none⟩)] 73)).alloc (.cells #[.int .i64 pg] 3)).alloc (.cells #[.slice none 0 0] 32)) w.heap.size (.pointer (some ⟨p,0,none⟩)) 73:=((QW _ _ _).alloc _).alloc _
 have k2:CellAt (((w.alloc (.cells #[.pointer (some ⟨p,0,none⟩)] 73)).alloc (.cells #[.int .i64 pg] 3)).alloc (.cells #[.slice none 0 0] 32)) (w.heap.size+1) (.int .i64 pg) 3:=by
  have:=(QW (w.alloc (.cells #[.pointer (some ⟨p,0,none⟩)] 73)) (.int .i64 pg) 3).alloc (.cells #[.slice none 0 0] 32)
  simpa using this
 have k3:CellAt (((w.alloc (.cells #[.pointer (some ⟨p,0,none⟩)] 73)).alloc (.cells #[.int .i64 pg] 3)).alloc (.cells #[.slice none 0 0] 32)) (w.heap.size+2) (.slice none 0 0) 32:=by
  have:=QW ((w.alloc (.cells #[.pointer (some ⟨p,0,none⟩)] 73)).alloc (.cells #[.int .i64 pg] 3)) (.slice none 0 0) 32
  simpa using this
 have hm:=zV h0;have hh:=UK h0 pg;rw [show hasB D pg=true by simp [hasB];omega] at hh;have hsz:(((w.alloc (.cells #[.pointer (some ⟨p,0,none⟩)] 73)).alloc (.cells #[.int .i64 pg] 3)).alloc (.cells #[.slice none 0 0] 32)).heap.size=w.heap.size+3:=by simp
 obtain ⟨W,hW⟩:∃W,((w.alloc (.cells #[.pointer (some ⟨p,0,none⟩)] 73)).alloc (.cells #[.int .i64 pg] 3)).alloc (.cells #[.slice none 0 0] 32)=W:=⟨_,rfl⟩;rw [hW] at hb0 h0 k1 k2 k3 hm hh hsz;have hbe:Below W.heap.size W (W.alloc (.cells #[.int .i64 0] 25)):=(Below.refl _ W).alloc (jB _) _;have hpin:=pin1_new (h0.below hbe) hops hs hpn pg hpg w.heap.size (w.heap.size+1) (w.heap.size+2) (k1.alloc _) (k2.alloc _) (k3.alloc _) (fun e1=>by have:=hF _ e1;omega)
 have hca:=caught_Pin W #[.pointer (some ⟨w.heap.size,0,none⟩),.pointer (some ⟨w.heap.size+1,0,none⟩),.pointer (some ⟨w.heap.size+2,0,none⟩)] (Pin1N p d N F D (bs.map fr) pg (w.heap.size+2) (W.alloc (.cells #[.int .i64 0] 25))) (hpin.mono (by
  rintro x w1 ⟨k,hx,hr⟩;refine ⟨k,hx,hr,(hr.2.2.1.block W.heap.size (by simp) (fun e1=>?_)).trans (GK W)⟩;rcases e1 with e1|e1
  ·have:=hF _ e1;omega
  ·omega))
 have hfin:Calls prog 105 #[.func (.func 126) #[] #[.pointer (some ⟨w.heap.size,0,none⟩),.pointer (some ⟨w.heap.size+1,0,none⟩),.pointer (some ⟨w.heap.size+2,0,none⟩)]] W fun x w'=>∃k a n c,x=.returned (.int .i64 k)/\CellAt w' (w.heap.size+2) (.slice a n c) 32/\
   PinR D N (bs.map fr) pg w (.returned (.tuple #[.slice a n c,.int .i64 k])) (w'.setCell ⟨w.heap.size+2,0,none⟩ (.slice a n c))/\∃F',Pool (w'.setCell ⟨w.heap.size+2,0,none⟩ (.slice a n c)) p d F' (usD D N (bs.map fr) pg true) N (pnL D N (bs.map fr) pg)/\Step F F' w (w'.setCell ⟨w.heap.size+2,0,none⟩ (.slice a n c))/\(∀g c2,(.slice a n c:Value)=.slice (some ⟨g,0,none⟩) 256 c2->¬F' g):=hca.mono (by
  rintro x w' ⟨k,w1,rfl,hr,he,rfl⟩;obtain ⟨r1,⟨F',r2,r3,r6⟩,r4,r5⟩:=hr;have hs1:W.heap.size+1<=w1.heap.size:=by have:=r4.size;simpa using this
  have hother:∀j,j≠W.heap.size->(w1.setCell ⟨W.heap.size,0,none⟩ (.int .i64 k)).heap[j]?=w1.heap[j]?:=fun j hj=>Below.heap_setCell w1 ⟨W.heap.size,0,none⟩ _ j hj
  have hother2:∀v j,j≠W.heap.size->j≠w.heap.size+2->((w1.setCell ⟨W.heap.size,0,none⟩ (.int .i64 k)).setCell ⟨w.heap.size+2,0,none⟩ v).heap[j]?=w1.heap[j]?:=fun v j hj hj2=>(Below.heap_setCell _ ⟨w.heap.size+2,0,none⟩ v j hj2).trans (hother j hj)
  have hF':∀j,F' j->j≠W.heap.size/\j≠w.heap.size+2:=fun j hj=>by
   rcases r3 j hj with e2|e2
   ·have:=hF _ e2;omega
   ·simp at e2;omega
  have hfin:∀v,(∀g c2,v=.slice (some ⟨g,0,none⟩) 256 c2->¬F' g)->∃F',Pool ((w1.setCell ⟨W.heap.size,0,none⟩ (.int .i64 k)).setCell ⟨w.heap.size+2,0,none⟩ v) p d F' (usD D N (bs.map fr) pg true) N (pnL D N (bs.map fr) pg)/\Step F F' w ((w1.setCell ⟨W.heap.size,0,none⟩ (.int .i64 k)).setCell ⟨w.heap.size+2,0,none⟩ v)/\(∀g c2,v=.slice (some ⟨g,0,none⟩) 256 c2->¬F' g):=fun v hv=>by
   refine ⟨F',r2.keep (by rw [yP,yP];exact jB _) (fun j hj=>hother2 v j (hF' j hj).1 (hF' j hj).2),⟨?_,fun j hj=>?_⟩,hv⟩
   ·have c1:Ch w.heap.size F w w1:=(Ch.of F hb0).trans (((Ch.of F hbe).mono (by omega) (fun _ _ e=>e)).trans (r4.mono (by simp;omega) (fun j hj e1=>by
     rcases e1 with e1|e1
     ·exact e1
     ·omega)))
    exact (c1.setCell (p:=⟨W.heap.size,0,none⟩) (.inl (by show w.heap.size<=W.heap.size;omega)) _).setCell (p:=⟨w.heap.size+2,0,none⟩) (.inl (by show w.heap.size<=w.heap.size+2;omega)) _
   ·rcases r3 j hj with e3|e3
    ·exact .inl e3
    ·exact .inr (by simp at e3;omega)
  rcases r5 with ⟨rfl,g,c,q1,q2⟩|⟨rk,q1⟩
  ·have q3:=q1.keep (hother (w.heap.size+2) (by omega));refine ⟨0,_,_,_,rfl,q3,.inl ⟨r1.symm,g,c,rfl,?_⟩,hfin _ (fun g2 c2 e2=>by cases e2;exact r6 _ _ q1.at.1)⟩;have lg:=q2.lt2;simp at lg;exact yX (q2.kept (hother2 _ g (by omega) (by omega))) (fun j hj=>by simp [Value.ownBlock] at hj;omega)
  ·have q3:=q1.keep (hother (w.heap.size+2) (by omega));exact ⟨k,_,_,_,rfl,q3,.inr ⟨by rw [<-r1];exact rk,by rw [r1]⟩,hfin _ (fun g2 c2 e2=>by cases e2)⟩)
 clear hca hpin h0 h k1 k2 k3 hF hbe hb0 hpn hsz;rw [<-hW] at hm hh hfin;clear hW;go_enter func78,ntmps78
 go_wp2_with (first|(go_at_call 103;refine hm.mono ?_;rintro x w' ⟨rfl,rfl⟩)|(go_at_call 104;refine hh.mono ?_;rintro x w' ⟨rfl,rfl⟩))
 refine hfin.mono ?_;clear hfin hm hh;rintro x w2 ⟨k,a,n,c,rfl,hcell,hres⟩;obtain ⟨q1,q2⟩:=hcell.at;have q3:=(hcell.set (.slice a n c)).at.1;have HR:Hid (PinR D N (bs.map fr) pg w (.returned (.tuple #[.slice a n c,.int .i64 k])) (w2.setCell ⟨w.heap.size+2,0,none⟩ (.slice a n c))/\∃F',Pool (w2.setCell ⟨w.heap.size+2,0,none⟩ (.slice a n c)) p d F' (usD D N (bs.map fr) pg true) N (pnL D N (bs.map fr) pg)/\Step F F' w (w2.setCell ⟨w.heap.size+2,0,none⟩ (.slice a n c))/\(∀g c2,(.slice a n c:Value)=.slice (some ⟨g,0,none⟩) 256 c2->¬F' g)):=hres;clear hres hcell;go_wp2;refine bodyPost_ret (v:=.tuple #[.slice a n c,.int .i64 k]) (by simp [results,Tryz.results78,go_sem,q3]) rfl ?_;obtain ⟨r1,F',r2,r3,r4⟩:=HR.out;refine ⟨r1,F',r2,r3,fun g2 c2 k2 e2=>r4 g2 c2 ?_⟩;simp only [Ending.returned.injEq,Value.tuple.injEq,Array.mk.injEq,List.cons.injEq,and_true] at e2;exact e2.1
end
end Go.Proofs.YtaijfhadecennaaGreat.Oct
namespace Go.Proofs.YtaijfhadecennaaGreat.Oct.Sx
open Go.RowKit
section
variable {w w':World} {s d:Nat} {F:Nat->Prop} {X:St}
theorem Sto.dev (h:Sto w s d F X):∃Fd,Dev w d Fd X.D/\(∀k,Fd k->F k)/\∀(w':World) (D':Dv) (Fd':Nat->Prop),Dev w' d Fd' D'->D'.n=X.D.n->Step Fd Fd' w w'->∃F',Sto w' s d F' {X with D:=D'}/\Step F F' w w':=by
 obtain ⟨p,sp,aC,cC,lab,hS,hlab,hlt⟩:=h;obtain ⟨F1,hp,hF1⟩:=hS.pool;obtain ⟨Fd,h1,h2,h3⟩:=hp.dev;refine ⟨Fd,h1,fun k hk=>hlab k (by have:=hF1 k (h2 k hk);omega),fun w' D' Fd' hd hn st=>?_⟩;obtain ⟨F1',hp',st'⟩:=h3 w' D' Fd' hd hn st;have hs:=hS.pool' hF1 hp.lt hp' st'
 exact StoO.out ⟨p,sp,aC,cC,_,hs,fun k hk=>by
  by_cases hlt:k<w.heap.size
  ·rw [zB hlt] at hk;exact .inl (hlab k hk)
  ·exact .inr (by omega),st'.1.mono (jB _) (fun k _ e=>hlab k (by have:=hF1 k e;omega))⟩
theorem Sto.lt (h:Sto w s d F X):∀k,F k->k<w.heap.size:=by
 obtain ⟨_,_,_,_,_,_,_,h⟩:=h;exact h
theorem Sto.keep (h:Sto w s d F X) (hs:w.heap.size<=w'.heap.size) (k:∀g,F g->w'.heap[g]?=w.heap[g]?):Sto w' s d F X:=by
 obtain ⟨p,sp,aC,cC,lab,hS,hlab,hlt⟩:=h;obtain ⟨F1,p1,p2⟩:=hS.pool;obtain ⟨F2,q1,q2⟩:=hS.space;have kk:∀g,lab g<=3->w'.heap[g]?=w.heap[g]?:=fun g hg=>k g (hlab g hg)
 exact ⟨p,sp,aC,cC,lab,⟨(kk s (by rw [hS.l0];omega)).trans hS.cells,hS.l0,⟨F1,p1.keep hs (fun g hg=>kk g (by rw [p2 g hg];omega)),p2⟩,⟨F2,zH q1 hs (fun g hg=>kk g (by rw [q2 g hg];omega)),q2⟩,
  yQ hS.ch (fun g hg=>kk g (by rw [hS.lc g (zC hg)];omega)),hS.lc⟩,hlab,fun g hg=>qA (hlt g hg) hs⟩
theorem Sto.ch (h:Sto w s d F X) {G:Nat->Prop} (hc:Ch w.heap.size G w w') (hd:∀k,F k->¬G k):Sto w' s d F X:=h.keep hc.size (fun g hg=>hc.block g (h.lt g hg) (hd g hg))
theorem Sto.below (h:Sto w s d F X) (hb:Below w.heap.size w w'):Sto w' s d F X:=h.keep hb.size (fun g hg=>hb.block g (h.lt g hg))
end
theorem pin_un {D:Dv} {N:Nat} {L:List Fr} {x:Nat} {Y:List Fr} {f:Fr} (hE:usE D N L x true=0) (hL:usL D N L x true=Y++[f]) (hf:f.page=x) (hY:∀g∈Y,g.page≠x) (hp:f.pins=0):
  pnL D N L x=Y++[{f with pins:=1}]/\pnB D N L x=f.b/\unL (Y++[{f with pins:=1}]) (x:Int)=Y++[f]/\unE (Y++[{f with pins:=1}]) (x:Int)=0:=by
 have h1:pnL D N L x=Y++[{f with pins:=1}]:=by
  unfold pnL;rw [if_pos hE,hL,QK,hp]
 have h2:fiP (Y++[{f with pins:=1}]) (x:Int)=Y.length:=by
  unfold fiP;rw [List.findIdx_append,List.findIdx_eq_length_of_false (by intro g hg;exact jH (fun e=>hY g hg (by omega))),if_neg (Nat.lt_irrefl _)];simp [hf]
 have h3:(Y++[{f with pins:=1}]).getD Y.length fr0={f with pins:=1}:=by
  rw [jA,qY (jB _),Nat.sub_self];rfl
 have h4:pinB (Y++[{f with pins:=1}]) (x:Int)=true:=by
  unfold pinB;rw [h2,h3,jN,List.length_singleton];simp
 refine ⟨h1,by unfold pnB;rw [hL];simp,?_,by unfold unE;rw [if_pos h4]⟩;unfold unL;rw [if_pos h4,h2,h3,xH _ _ (jB _),Nat.sub_self];have e:({f with pins:=1-1}:Fr)=f:=by cases f;simp_all
 show Y++[({f with pins:=1-1}:Fr)]=_;rw [e]
section
variable {w w':World} {s d:Nat} {F:Nat->Prop} {X:St}
theorem has_any (h:Sto w s d F X) (x:Int) (hx:0<=x/\x<X.D.n):Calls prog 56 #[.pointer (some ⟨s,0,none⟩),.int .i64 x] w fun e w'=>e=.returned (.bool true)/\w=w':=by
 obtain ⟨p,sp,aC,cC,lab,hS,hlab,hlt⟩:=h;obtain ⟨F1,hp,hF1⟩:=hS.pool;have hpg:=QC hp;have s0:=hS.at.1;have g1:decide ((0:Int)<=x)=true:=jE hx.1;have g2:decide (x<(X.D.n:Int))=true:=jE hx.2;clear hS hp hlab hlt hF1;go_enter func56,ntmps56
 go_wp2_with (go_at_call 48;refine hpg.mono ?_;rintro e w' ⟨rfl,rfl⟩)
 go_ret
 exact ⟨rfl,rfl⟩
structure RdS (X X':St):Prop where
 eq:X'={X with D:=X'.D,L:=X'.L}
 fi:FI X'.D X'.N X'.L
 nd:∀k,¬DP X'.L k
 ac:∃c,Acts (fun _=>False) c X.D X'.D/\c<=2
theorem acts_now {D E:Dv} {c:Nat} (h:Acts (fun _=>False) c D E):E.now=D.now/\E.sure=D.sure/\E.since=D.since:=by
 refine h.ind (P:=fun G=>G.now=D.now/\G.sure=D.sure/\G.since=D.since) ⟨rfl,rfl,rfl⟩ (fun G hG=>?_) (fun _ _ _ _ hf=>hf.elim)
 have:(readD G).now=G.now/\(readD G).sure=G.sure/\(readD G).since=G.since:=by
  unfold readD;split
  ·exact ⟨rfl,rfl,rfl⟩
  ·split<;>exact ⟨rfl,rfl,rfl⟩
 exact ⟨this.1.trans hG.1,this.2.1.trans hG.2.1,this.2.2.trans hG.2.2⟩
theorem Read_any (h:Sto w s d F X) (fi:FI X.D X.N X.L) (nd:∀k,¬DP X.L k) (hw:Well X.D) (hops:X.D.ops<=999999000) (hsi:X.D.since.length<=1000000) (x:Nat) (hx:x<X.D.n):
  Calls prog 35 #[.pointer (some ⟨s,0,none⟩),.int .i64 x] w fun e w'=>∃g c X' F',e=.returned (.tuple #[.slice (some ⟨g,0,none⟩) 256 c,.int .i64 0])/\Own w.heap.size w' (.slice (some ⟨g,0,none⟩) 256 c) (pageOf X.D.now x)/\RdS X X'/\Sto w' s d F' X'/\Step F F' w w':=by
 obtain ⟨p,sp,aC,cC,lab,hS,hlab,hlt⟩:=h;obtain ⟨F1,hp,hF1⟩:=hS.pool;obtain ⟨s0,s1,_⟩:=hS.at;have hN:=pool_n hp;have hmd:=YK s d w s0;have hpin:=Pin_new hp (by omega) hsi (fun f hf=>by rw [fi.pins f hf];omega) x hx;obtain ⟨E,hE⟩:∃E,usE X.D X.N X.L x true=E:=⟨_,rfl⟩;obtain ⟨D',hD⟩:∃D',usD X.D X.N X.L x true=D':=⟨_,rfl⟩;obtain ⟨L',hL⟩:∃L',usL X.D X.N X.L x true=L':=⟨_,rfl⟩;obtain ⟨f1,f2,f3,f4,f5⟩:=fi.pin (by omega) hx hE hD hL
 have hE0:E=0:=by
  rcases f5 with ⟨e,_⟩|⟨_,e⟩
  ·exact e
  ·exact absurd e (hw.not_bad f3.mo)
 obtain ⟨Y,f,hLY,hfp,hY,hfb⟩:=(f5.resolve_right (fun e=>by rw [hE0] at e;exact absurd e.1 (by decide))).2;have hpf:f.pins=0:=f1.pins f (by rw [hLY];simp);obtain ⟨u1,u2,u3,u4⟩:=pin_un (hE.trans hE0) (hL.trans hLY) hfp hY hpf
 have hb:f.b=pageOf X.D.now x:=by
  refine hfb _ ⟨fun g hg hgx=>?_,fun _=>rfl⟩;by_cases hd:g.dirty=true
  ·exact absurd ⟨g,hg,hgx,hd⟩ (nd x)
  ·exact ((fi.agree g hg (by simpa using hd)).symm.trans (by rw [hgx]))
 rw [u1] at hpin
 have hun:=fun (wx:World) (Fx:Nat->Prop) (hpx:Pool wx p d Fx D' X.N (Y++[{f with pins:=1}]))=>Unpin_any hpx (fun g hg=>by
  rcases List.mem_append.1 hg with hg|hg
  ·rw [f1.pins g (by rw [hLY];exact qM _ hg)];omega
  ·rw [List.mem_singleton.1 hg];show 1<=_;omega) (x:Int) (by have h4:=fi.ok.n4;clear hpin;simp [Lit.wf,IntKind.min,IntKind.max,IntKind.signed,IntKind.bits];omega)
 rw [u3,u4] at hun;rw [hD] at hpin
 have HK:Hid (StoC w s d p sp aC cC lab X/\(∀k,lab k<=3->F k)/\(∀k,F k->k<w.heap.size)/\(∀k,F1 k->lab k=1)/\(∀k,F1 k->k<w.heap.size)/\FI D' X.N (Y++[f])/\(∀k,¬DP (Y++[f]) k)/\Acts (DP X.L) 2 X.D D'/\pnB X.D X.N X.L x=pageOf X.D.now x/\usE X.D X.N X.L x true=0):=
  ⟨hS,hlab,hlt,hF1,hp.lt,by rw [<-hLY];exact f1,fun k hk=>nd k (f4 k (by rw [hLY];exact hk)),f3,u2.trans hb,hE.trans hE0⟩
 have HND:Hid (∀k,¬DP X.L k):=nd;clear hS hp hlab hlt hF1 fi nd hw hops hsi hN hE hD hL f1 f2 f3 f4 f5 hE0 hLY hfp hY hfb hpf u1 u2 u3 u4 hb;go_enter func35,ntmps35
 go_wp2_with (first
  |(go_at_call 55;refine hmd.mono ?_;rintro e w' ⟨rfl,rfl⟩;clear hmd)
  |(go_at_call 78;refine hpin.mono ?_;rintro e w1 ⟨hr,F2,hp2,st2,hg2⟩
    have hr2:∃g c,e=.returned (.tuple #[.slice (some ⟨g,0,none⟩) 256 c,.int .i64 0])/\Own w.heap.size w1 (.slice (some ⟨g,0,none⟩) 256 c) (pageOf X.D.now x):=by
     rcases hr with ⟨_,g,c,e1,e2⟩|⟨e1,_⟩
     ·exact ⟨g,c,e1,by rw [<-HK.out.2.2.2.2.2.2.2.2.1];exact e2⟩
     ·exact absurd HK.out.2.2.2.2.2.2.2.2.2 e1
    obtain ⟨g,c,rfl,ho⟩:=hr2;have hgF:=hg2 g c _ rfl;have hun2:=hun w1 F2 hp2;have t1:w1.cell? ⟨s,1,none⟩=some (.pointer (some ⟨p,0,none⟩)):=((HK.out.1.pool' HK.out.2.2.2.1 HK.out.2.2.2.2.1 hp2 st2)).at.2.1;have HP:Hid (Pool w1 p d F2 D' X.N (Y++[{f with pins:=1}])/\Step F1 F2 w w1/\Own w.heap.size w1 (.slice (some ⟨g,0,none⟩) 256 c) (pageOf X.D.now x)/\¬F2 g):=⟨hp2,st2,ho,hgF⟩;clear hpin hr hp2 st2 ho hun s0 s1 hg2 hgF)
  |(go_at_call 79;refine hun2.mono ?_;rintro e w2 ⟨rfl,hp3,hc3⟩
    have HF:Hid (Pool w2 p d F2 D' X.N (Y++[f])/\Ch w1.heap.size F2 w1 w2):=⟨hp3,hc3⟩;clear hun2 hp3 hc3))
 go_ret2
 obtain ⟨h1,h2,h3,h4,h5,h6,h7,h8,h9,_⟩:=HK.out;obtain ⟨p2,st2,ho,hgF⟩:=HP.out;obtain ⟨p3,hc3⟩:=HF.out;have st3:Step F1 F2 w w2:=st2.trans (Step.of hc3);have hs:=h1.pool' h4 h5 p3 st3;have lg:=ho.lt2;have ho2:Own w.heap.size w2 (.slice (some ⟨g,0,none⟩) 256 c) (pageOf X.D.now x):=ho.kept (hc3.block g lg.2 hgF)
 obtain ⟨F',hF1,hF2⟩:=StoO.out (w0:=w) (F0:=F) ⟨p,sp,aC,cC,_,hs,fun k hk=>by
  by_cases hlt:k<w.heap.size
  ·rw [zB hlt] at hk;exact .inl (h2 k hk)
  ·exact .inr (by omega),st3.1.mono (jB _) (fun k _ e=>h2 k (by have:=h4 k e;omega))⟩
 refine ⟨g,c,{X with D:=D',L:=Y++[f]},F',rfl,ho2,⟨rfl,h6,h7,2,?_,jB _⟩,hF1,hF2⟩;exact h8.mono (fun k hk=>(HND.out k hk).elim) (jB _)
end
end Go.Proofs.YtaijfhadecennaaGreat.Oct.Sx
namespace Go.Proofs.YtaijfhadecennaaGreat.Oct
open Go.RowKit
theorem yU {P:Program} {fn:Func} {p u:Tmp} {ty:TypeId} (h:fn.results= #[.cell p ty,.tmp u]) (tmps:Array Value) (w:World) (g:Nat) (t:TypeId) (cs:Array Value) (fr:Nat × Nat) (d:TypeDesc)
  (hp:tmps.getD p undef=.pointer (some ⟨g,0,none⟩)) (hg:w.heap[g]?=some (.cells cs t fr))
  (hu:P.underlying ty=some d) (hd:(match d with| .struct _| .array _ _=>true|_=>false)=true) (hi:(P.info? ty).map (·.size)=some cs.size):
  (results fn tmps).run P w=.ok (.tuple #[.agg cs,tmps.getD u undef]) w:=by
 rw [results_cell_tmp h,hp];simp [asAddr,Result.andThen,run_loadVar_row w g t ty cs fr d hg hu hd hi]
def rpC (S:Sp) (pl:Int) (vP vT vS vG:Value) (h:Int):Array Value:= #[.int .i64 S.g,.int .i64 S.p,.int .i64 S.r,.int .i64 S.h,.int .i64 S.b,.int .i64 S.l,.int .i64 S.s,.int .i64 S.f,.int .i64 pl,vP,vT,vS,vG,.int .i64 h]
def rp0C:Array Value:=rpC sp0 0 (.slice none 0 0) (.slice none 0 0) (.slice none 0 0) (.slice none 0 0) 0
def RepIs (B:Nat) (w:World) (v:Value) (R:Rp):Prop:=∃aP cP aT cT aS cS aG cG,v=.agg (rpC R.s R.pl (.slice aP R.pc.length cP) (.slice aT R.tx.length cT) (.slice aS R.st.length cS) (.slice aG R.pg.length cG) R.h)/\RowC w aP cP R.pc/\Row w aT cT R.tx/\Row w aS cS R.st/\RowI w aG cG R.pg/\∀k,(obl aP k\/obl aT k\/obl aS k\/obl aG k)->B<=k
theorem RepIs.below {B:Nat} {w w':World} {v:Value} {R:Rp} (h:RepIs B w v R) (k:Below w.heap.size w w'):RepIs B w' v R:=by
 obtain ⟨aP,cP,aT,cT,aS,cS,aG,cG,e,h1,h2,h3,h4,h5⟩:=h;exact ⟨aP,cP,aT,cT,aS,cS,aG,cG,e,h1.below k,h2.below k,h3.below k,h4.below k,h5⟩
theorem rep0 (B:Nat) (w:World):RepIs B w (.agg rp0C) rp0:=⟨none,0,none,0,none,0,none,0,rfl,⟨fun q hq=>(by cases hq),jB _,by simp [maxLen],.inl rfl⟩,row0 w,row0 w,⟨jB _,by simp [maxLen],.inl rfl⟩,fun k hk=>by rcases hk with ⟨x,e,_⟩|⟨x,e,_⟩|⟨x,e,_⟩|⟨x,e,_⟩<;>cases e⟩
def StR (x y:Value):Sem Unit:=Instr.storeAt 95 x y
theorem GX (x y:Value):Instr.storeAt 95 x y=StR x y:=rfl
theorem VS (S:Sp) (pl h:Int) (aP aT aS aG:Option Addr) (nP nT nS nG cP cT cS cG:Nat):(rpC S pl (.slice aP nP cP) (.slice aT nT cT) (.slice aS nS cS) (.slice aG nG cG) h).all (·.oneCell')=true:=by
 simp [rpC,Value.oneCell']
theorem UZ {w:World} {g:Nat} {old cs:Array Value} (hg:w.heap[g]?=some (.cells old 95 (0,0))) (ho:old.size=14) (hc:cs.size=14) (h1:cs.all (·.oneCell')=true):(StR (.pointer (some ⟨g,0,none⟩)) (.agg cs)).run prog w=.ok () (w.setRow g cs):=by
 unfold StR;simp only [Instr.storeAt,Instr.sureAddr,Sem.run_bind,Sem.run_pure,Result.andThen_ok];rw [run_storeVar_row w g 95 95 old cs hg (by rw [hc];kernel_rfl) (by omega) h1]
attribute [local go_sem ↓] GX
def bx (w:World) (S:Sp):World:=(w.alloc (.cells #[.int .i64 S.g,.int .i64 S.p,.int .i64 S.r,.int .i64 S.h,.int .i64 S.b,.int .i64 S.l,.int .i64 S.s,.int .i64 S.f] 29)).alloc (.cells rp0C 95)
theorem GS (w:World) (S:Sp):(bx w S).heap.size=w.heap.size+2:=by unfold bx;simp
theorem KM (w:World) (S:Sp):Below w.heap.size w (bx w S):=((Below.refl _ w).alloc (jB _) _).alloc (by simp) _
theorem bx_s (w:World) (S:Sp):(bx w S).heap[w.heap.size]?=some (.cells #[.int .i64 S.g,.int .i64 S.p,.int .i64 S.r,.int .i64 S.h,.int .i64 S.b,.int .i64 S.l,.int .i64 S.s,.int .i64 S.f] 29 (0,0)):=heap_alloc2_old w _ _
theorem bx_r (w:World) (S:Sp):(bx w S).heap[w.heap.size+1]?=some (.cells rp0C 95 (0,0)):=heap_alloc2_new w _ _
theorem YI {w w1:World} {cs:Array Value} (hb:Below w.heap.size w w1) (hr:w1.heap[w.heap.size+1]?=some (.cells rp0C 95 (0,0))):
  (StR (.pointer (some ⟨w.heap.size+1,0,none⟩)) (.agg #[.int .i64 0,.int .i64 0,.int .i64 0,.int .i64 0,.int .i64 0,.int .i64 0,.int .i64 0,.int .i64 0,.int .i64 0,.slice none 0 0,.slice none 0 0,.slice none 0 0,.slice none 0 0,.int .i64 0])).run prog w1=.ok () (w1.setRow (w.heap.size+1) rp0C)/\(w1.setRow (w.heap.size+1) cs).heap[w.heap.size+1]?=some (.cells cs 95 (0,0))/\Below w.heap.size w (w1.setRow (w.heap.size+1) cs):=
 ⟨UZ hr rfl rfl (by simp [Value.oneCell']),setRow_heap w1 _ _ _ _ _ hr,((Ch.of (fun _=>False) hb).setRow (.inl (by omega)) _).below (fun k e=>by cases e)⟩
set_option maxRecDepth 20000 in
theorem rwalk_arg (a:Option Addr) (n cap:Nat) (w:World) (S:Sp) (hS:okS S=false):
  Calls prog 118 #[.slice a n cap,spV S] w fun e w'=>e=.returned (.tuple #[.agg rp0C,.int .i64 1])/\Below w.heap.size w w':=by
 have C:=XR S (bx w S);rw [show enE S=1 by unfold enE;rw [hS];rfl] at C;have HB:Hid (Below w.heap.size w (bx w S)/\(bx w S).heap.size=w.heap.size+2/\(bx w S).heap[w.heap.size+1]?=some (.cells rp0C 95 (0,0))):=⟨KM w S,GS w S,bx_r w S⟩;unfold spV at C ⊢;clear hS;go_enter func118,ntmps118
 go_wp2_with fail
 refine C.mono ?_;clear C;rintro e w1 ⟨rfl,hb⟩;have hr:=(hb.block (w.heap.size+1) (by have:=HB.out.2.1;omega)).trans HB.out.2.2;have hb1:=HB.out.1.trans (hb.mono HB.out.1.size);obtain ⟨n1,n2,n3⟩:=YI (cs:=rp0C) hb1 hr;have HE:Hid ((w1.setRow (w.heap.size+1) rp0C).heap[w.heap.size+1]?=some (.cells rp0C 95 (0,0))/\Below w.heap.size w (w1.setRow (w.heap.size+1) rp0C)):=⟨n2,n3⟩;clear hb hr hb1 n2 n3 HB;go_wp2;refine bodyPost_ret (yU rfl _ _ (w.heap.size+1) _ rp0C (0,0) _ rfl HE.out.1 underlying95 rfl (by kernel_rfl)) rfl ?_;exact ⟨rfl,HE.out.2⟩
set_option maxRecDepth 20000 in
theorem rwalk_pages (a:Option Addr) (n cap N:Nat) (hn:n<=maxLen) (hN:n/256=N) (w:World) (S:Sp) (hS:okS S=true) (hp:¬S.p=(N:Int)):
  Calls prog 118 #[.slice a n cap,spV S] w fun e w'=>e=.returned (.tuple #[.agg rp0C,.int .i64 8])/\Below w.heap.size w w':=by
 have C:=XR S (bx w S);rw [show enE S=0 by unfold enE;rw [hS];rfl] at C;have HB:Hid (Below w.heap.size w (bx w S)/\(bx w S).heap.size=w.heap.size+2/\(bx w S).heap[w.heap.size+1]?=some (.cells rp0C 95 (0,0))/\(bx w S).heap[w.heap.size]?=some (.cells #[.int .i64 S.g,.int .i64 S.p,.int .i64 S.r,.int .i64 S.h,.int .i64 S.b,.int .i64 S.l,.int .i64 S.s,.int .i64 S.f] 29 (0,0))):=⟨KM w S,GS w S,bx_r w S,bx_s w S⟩;unfold maxLen at hn;have hq:(n:Int)/256=(N:Int):=by omega
 have hp1:(S.p==(N:Int))=false:=by rw [xG];exact hp
 have hp2:(S.p !=(N:Int))=true:=by unfold bne;rw [hp1];rfl
 unfold spV at C ⊢;clear hS hp hN;go_enter func118,ntmps118
 go_wp2_with fail
 refine C.mono ?_;clear C;rintro e w1 ⟨rfl,hb⟩;have hr:=(hb.block (w.heap.size+1) (by have:=HB.out.2.1;omega)).trans HB.out.2.2.1;have hs:=(hb.block (w.heap.size) (by have:=HB.out.2.1;omega)).trans HB.out.2.2.2;have s1:w1.cell? ⟨w.heap.size,1,none⟩=some (.int .i64 S.p):=by rw [cell_of_row w1 _ _ _ _ (0,0) hs];rfl
 have hb1:=HB.out.1.trans (hb.mono HB.out.1.size);obtain ⟨n1,n2,n3⟩:=YI (cs:=rp0C) hb1 hr;have HE:Hid ((w1.setRow (w.heap.size+1) rp0C).heap[w.heap.size+1]?=some (.cells rp0C 95 (0,0))/\Below w.heap.size w (w1.setRow (w.heap.size+1) rp0C)):=⟨n2,n3⟩;clear hb hr hs hb1 n2 n3 HB;go_wp2;refine bodyPost_ret (yU rfl _ _ (w.heap.size+1) _ rp0C (0,0) _ rfl HE.out.1 underlying95 rfl (by kernel_rfl)) rfl ?_;exact ⟨rfl,HE.out.2⟩
end Go.Proofs.YtaijfhadecennaaGreat.Oct
namespace Go.Proofs.YtaijfhadecennaaGreat.Oct
open Go.RowKit
def q00 (i:Nat):Value:=if i=9\/i=10 then .slice none 0 0 else .int .i64 0
def spC (S:Sp):Array Value:= #[.int .i64 S.g,.int .i64 S.p,.int .i64 S.r,.int .i64 S.h,.int .i64 S.b,.int .i64 S.l,.int .i64 S.s,.int .i64 S.f]
structure WkS (w wx:World) (p N:Nat) (F:Nat->Prop) (ia:Option Addr) (ic:Nat) (L:List Int) (q:Nat->Value) (W:Wk) (S:Sp):Prop where
 rw:RWA wx p F ia ic L q W
 bel:Below w.heap.size w wx
 s:wx.heap[w.heap.size]?=some (.cells (spC S) 29 (0,0))
 r:wx.heap[w.heap.size+1]?=some (.cells rp0C 95 (0,0))
 lo:∀k,F k->w.heap.size+2<=k
 kl:W.kd.length=N
 n0:0<N
 ilo:∀k,obl ia k->k<w.heap.size
section
variable {w wx w2:World} {p N ic:Nat} {F F2:Nat->Prop} {ia:Option Addr} {L:List Int} {q q2:Nat->Value} {W W2:Wk} {S:Sp}
theorem WkS.lt (h:WkS w wx p N F ia ic L q W S):w.heap.size+1<wx.heap.size:=yR h.r
theorem WkS.step (h:WkS w wx p N F ia ic L q W S) (h2:RWA w2 p F2 ia ic L q2 W2) (st:Step F F2 wx w2) (hl:W2.kd.length=N):WkS w w2 p N F2 ia ic L q2 W2 S:=by
 have hlt:=h.lt;refine {rw:=h2,bel:=h.bel.trans ((st.below h.bel.size (fun k hk=>by have:=h.lo k hk;omega)).1),s:=(st.1.block _ (by omega) (fun e=>by have:=h.lo _ e;omega)).trans h.s,r:=(st.1.block _ hlt (fun e=>by have:=h.lo _ e;omega)).trans h.r,lo:=fun k hk=>?_,kl:=hl,n0:=h.n0,ilo:=h.ilo};rcases st.2 k hk with h1|h1
 ·exact h.lo k h1
 ·omega
theorem WkS.below (h:WkS w wx p N F ia ic L q W S) (hb:Below wx.heap.size wx w2):WkS w w2 p N F ia ic L q W S:=
 h.step (h.rw.below (by rw [h.kl];exact h.n0) hb) (Step.ofB hb) h.kl
theorem WkS.at (h:WkS w wx p N F ia ic L q W S):wx.cell? ⟨w.heap.size,1,none⟩=some (.int .i64 S.p)/\wx.cell? ⟨w.heap.size,2,none⟩=some (.int .i64 S.r)/\wx.cell? ⟨w.heap.size,3,none⟩=some (.int .i64 S.h)/\wx.cell? ⟨w.heap.size,4,none⟩=some (.int .i64 S.b)/\wx.cell? ⟨w.heap.size,5,none⟩=some (.int .i64 S.l)/\wx.cell? ⟨w.heap.size,6,none⟩=some (.int .i64 S.s)/\wx.cell? ⟨w.heap.size,7,none⟩=some (.int .i64 S.f):=by
 refine ⟨?_,?_,?_,?_,?_,?_,?_⟩<;>(rw [cell_of_row wx _ _ _ _ (0,0) h.s];rfl)
theorem rw_start {w1:World} {gk B:Nat} (hrow:Row w1 ia ic L) (hil:L.length=256*N) (h4:N<=4096) (ho:Own B w1 (.slice (some ⟨gk,0,none⟩) N N) (List.replicate N 0)) (hi:∀k,obl ia k->k<B) (hB:B<=w1.heap.size):
  RWA (w1.alloc (.cells (wcs ia L.length ic gk N N q00 none 0 0 none 0 0 false) 188)) w1.heap.size (fun k=>k=w1.heap.size\/k=gk) ia ic L q00 (wk0 N):=by
 have hbl:=(Below.refl w1.heap.size w1).alloc (jB _) (.cells (wcs ia L.length ic gk N N q00 none 0 0 none 0 0 false) 188);have hgk:=ho.lt2;have hlen:(wk0 N).kd.length=N:=by simp [wk0]
 have no:∀k,¬obl (none:Option Addr) k:=fun k ⟨x,e,_⟩=>by cases e
 refine ⟨gk,N,none,none,0,0,?_⟩;refine {lt:=fun k hk=>?_,fp:=.inl rfl,fk:=.inr rfl,fP:=fun k hk=>absurd hk (no k),fT:=fun k hk=>absurd hk (no k),cells:=?_,kd:=?_,pc:=⟨rfl,.inl ⟨rfl,rfl⟩⟩,tx:=⟨rfl,.inl ⟨rfl,rfl⟩⟩,kb:=fun z hz=>?_,tb:=fun z hz=>(by cases hz),img:=hrow.below hbl,inF:=fun k hk e=>?_,il:=by rw [hlen];exact hil,kl:=by rw [hlen];exact h4,pk:=by omega,pP:=no _,pT:=no _,kP:=no _,kT:=no _,PT:=fun k hk=>absurd hk (no k)}
 ·rw [zE];rcases hk with rfl|rfl<;>omega
 ·rw [hlen];exact heap_alloc_new w1 _
 ·rw [hlen];exact (ho.zero).kept (hbl.block gk hgk.2)
 ·rw [(List.mem_replicate.1 hz).2];omega
 ·have:=hi k hk;rcases e with rfl|rfl<;>omega
theorem RWA.setQ (h:RWA wx p F ia ic L q W) (i j:Nat) (hij:(i=13/\j=9)\/(i=14/\j=10)\/(i=10/\j=8)\/(i=15/\j=11)) (v:Value):RWA (wx.setCell ⟨p,i,none⟩ v) p F ia ic L (fun k=>if k=j then v else q k) W:=by
 obtain ⟨gk,ck,aP,aT,cP,cT,h⟩:=h;have k:∀g,¬g=p->(wx.setCell ⟨p,i,none⟩ v).heap[g]?=wx.heap[g]?:=fun g hg=>Below.heap_setCell wx ⟨p,i,none⟩ _ g hg
 refine ⟨gk,ck,aP,aT,cP,cT,?_⟩
 exact {h with
  lt:=fun g hg=>by rw [yP];exact h.lt g hg
  cells:=by
   rw [yO _ _ _ _ _ _ _ h.cells];rcases hij with ⟨rfl,rfl⟩|⟨rfl,rfl⟩|⟨rfl,rfl⟩|⟨rfl,rfl⟩<;>rfl
  kd:=h.kd.kept (k gk (fun e=>h.pk e.symm))
  pc:=h.pc.keepO (fun g hg=>k g (fun e=>h.pP (e▸hg)))
  tx:=h.tx.keepO (fun g hg=>k g (fun e=>h.pT (e▸hg)))
  img:=h.img.keepO (fun g hg=>k g (fun e=>h.inF g hg (e▸h.fp)))}
theorem RWA.frz (h:RWA wx p F ia ic L q W) (i:Nat):wx.frozen? ⟨p,i,none⟩=false:=by
 obtain ⟨_,_,_,_,_,_,h⟩:=h;exact h.frz i
theorem RWA.c13 (h:RWA wx p F ia ic L q W):wx.cell? ⟨p,13,none⟩=some (q 9)/\wx.cell? ⟨p,14,none⟩=some (q 10)/\wx.cell? ⟨p,10,none⟩=some (q 8)/\wx.cell? ⟨p,15,none⟩=some (q 11):=by
 obtain ⟨_,_,_,_,_,_,h⟩:=h;refine ⟨?_,?_,?_,?_⟩<;>(rw [cell_of_row wx p _ _ _ (0,0) h.cells];rfl)
end
theorem wa_no {L:List Int} {S:Sp} (hS:okS S=true) (hp:S.p=(pgN L:Int)) (h:waB L S=false):waE L S=8/\waR L S=rp0:=by
 have e:waE L S=8:=by unfold waE;rw [if_pos hS,if_pos hp,h];rfl
 refine ⟨e,?_⟩;unfold waR;rw [if_neg (by rw [e];decide)]
theorem wa_yes {L:List Int} {S:Sp} (hS:okS S=true) (hp:S.p=(pgN L:Int)) (h:waB L S=true):waE L S=0/\waR L S=⟨S,-1,(wkD L S).1.pc,(wkD L S).1.tx,(wkC L S).2,rsg (wkD L S).1.kd (pgN L),S.h⟩:=by
 have e:waE L S=0:=by unfold waE;rw [if_pos hS,if_pos hp,h];rfl
 refine ⟨e,?_⟩;unfold waR;rw [if_pos e]
def StS (x y:Value):Sem Unit:=Instr.storeAt 29 x y
theorem KO (x y:Value):Instr.storeAt 29 x y=StS x y:=rfl
def LdR (x:Value):Sem Value:=Instr.loadAt 95 x
theorem LdR_eq (x:Value):Instr.loadAt 95 x=LdR x:=rfl
def qS (S:Sp) (q:Nat->Value) (i:Nat):Value:=match i with
 |0=>.int .i64 S.g
 |1=>.int .i64 S.p
 |2=>.int .i64 S.r
 |3=>.int .i64 S.h
 |4=>.int .i64 S.b
 |5=>.int .i64 S.l
 |6=>.int .i64 S.s
 |7=>.int .i64 S.f
 |i=>q i
theorem YE (p:Nat):∀(vs:List Value) (o:Nat) (w:World),Ch w.heap.size (fun x=>x=p) w (w.setCells p o vs)
 |[],_,w=>Ch.refl _ _ w
 |v::r,o,w=>by
  rw [World.setCells];have h1:Ch w.heap.size (fun x=>x=p) w (w.setCell ⟨p,o,none⟩ v):=(Ch.refl _ (fun x=>x=p) w).setCell (p:=⟨p,o,none⟩) (.inr rfl) v;have h2:=YE p r (o+1) (w.setCell ⟨p,o,none⟩ v);rw [yP] at h2;exact h1.trans h2
section
variable {w:World} {p ic gk kl ck il nP cP nT cT:Nat} {ia aP aT:Option Addr} {q:Nat->Value} {bad:Bool}
theorem QX (j:Nat) (hj:j<8) (v:Value):(wcs ia il ic gk kl ck q aP nP cP aT nT cT bad).setIfInBounds (2+j) v=wcs ia il ic gk kl ck (fun i=>if i=j then v else q i) aP nP cP aT nT cT bad:=by
 rcases eight hj with rfl|rfl|rfl|rfl|rfl|rfl|rfl|rfl<;>rfl
theorem setS (S:Sp) (hc:w.heap[p]?=some (.cells (wcs ia il ic gk kl ck q aP nP cP aT nT cT bad) 188 (0,0))):
  ∃w9,(StS (.pointer (some ⟨p,2,none⟩)) (.agg (spC S))).run prog w=.ok () w9/\w9.heap[p]?=some (.cells (wcs ia il ic gk kl ck (qS S q) aP nP cP aT nT cT bad) 188 (0,0))/\Ch w.heap.size (fun x=>x=p) w w9:=by
 refine ⟨w.setCells p 2 (spC S).toList,?_,?_,?_⟩
 ·unfold StS;refine run_storeAt_mid w p 2 29 (spC S) ?_ (by kernel_rfl) (by simp [spC,Value.oneCell']);intro j hj;have hj':j<8:=hj;refine ⟨?_,by unfold World.frozen?;rw [hc];simp⟩;rw [cell_of_row w p _ _ _ (0,0) hc];rcases eight hj' with rfl|rfl|rfl|rfl|rfl|rfl|rfl|rfl<;>rfl
 ·simp only [spC,World.setCells];rw [yO _ _ _ _ _ _ _ (yO _ _ _ _ _ _ _ (yO _ _ _ _ _ _ _ (yO _ _ _ _ _ _ _ (yO _ _ _ _ _ _ _ (yO _ _ _ _ _ _ _ (yO _ _ _ _ _ _ _ (yO _ _ _ _ _ _ _ hc)))))))];rw [QX 0 (by omega),QX 1 (by omega),QX 2 (by omega),QX 3 (by omega),QX 4 (by omega),QX 5 (by omega),QX 6 (by omega),QX 7 (by omega)];simp [wcs,qS]
 ·exact YE p (spC S).toList 2 w
theorem getR (hc:w.heap[p]?=some (.cells (wcs ia il ic gk kl ck q aP nP cP aT nT cT bad) 188 (0,0))):
  (LdR (.pointer (some ⟨p,2,none⟩))).run prog w=.ok (.agg #[q 0,q 1,q 2,q 3,q 4,q 5,q 6,q 7,q 8,.slice aP nP cP,.slice aT nT cT,q 9,q 10,q 11]) w:=by
 unfold LdR;have:=run_loadVar_mid (P:=prog) w p 2 95 [q 0,q 1,q 2,q 3,q 4,q 5,q 6,q 7,q 8,.slice aP nP cP,.slice aT nT cT,q 9,q 10,q 11] _ ?_ underlying95 rfl (by kernel_rfl)
 ·simp only [Instr.loadAt,Instr.sureAddr,Sem.run_bind,Sem.run_pure,Result.andThen_ok,this]
 ·intro j v hj;rw [cell_of_row w p _ _ _ (0,0) hc];have hj':j<14:=(List.getElem?_eq_some_iff.1 hj).1;rw [<-hj];rcases (by omega:j=0\/j=1\/j=2\/j=3\/j=4\/j=5\/j=6\/j=7\/j=8\/j=9\/j=10\/j=11\/j=12\/j=13) with rfl|rfl|rfl|rfl|rfl|rfl|rfl|rfl|rfl|rfl|rfl|rfl|rfl|rfl<;>rfl
end
def qk (gs:Option Addr) (sl cs:Nat) (v:Value) (i:Nat):Value:=if i=10 then v else if i=9 then .slice gs sl cs else q00 i
structure PgI (w w7 wr:World) (p N:Nat) (F:Nat->Prop) (a:Option Addr) (cap:Nat) (L:List Int) (gs:Option Addr) (sl cs:Nat) (DW:Wk) (S:Sp) (k:Nat) (v:Value):Prop where
 wk:WkS w wr p N F a cap L (qk gs sl cs v) DW S
 own:OwnI w7.heap.size wr v (rsg DW.kd k)
 ch:Ch w7.heap.size F w7 wr
theorem gF {kd:List Int} {k:Nat} (h:¬kd.getD k 0=0):rsg kd (k+1)=rsg kd k++[(k:Int)]:=by rw [rsg,if_neg h]
theorem rsg_no {kd:List Int} {k:Nat} (h:kd.getD k 0=0):rsg kd (k+1)=rsg kd k:=by rw [rsg,if_pos h]
theorem rsg_len (kd:List Int):∀k,(rsg kd k).length<=k:=by
 intro k
 induction k with
 |zero=>simp [rsg]
 |succ k ih=>
  by_cases h:kd.getD k 0=0
  ·rw [rsg_no h];omega
  ·rw [gF h,jN];simp;omega
theorem qk_set (gs:Option Addr) (sl cs:Nat) (v v':Value):(fun k=>if k=10 then v' else qk gs sl cs v k)=qk gs sl cs v':=by
 funext k
 unfold qk;by_cases h:k=10
 ·simp [h]
 ·simp [h]
theorem PgI.next {w w7 wr w4:World} {p N:Nat} {F:Nat->Prop} {a:Option Addr} {cap:Nat} {L:List Int} {gs:Option Addr} {sl cs:Nat} {DW:Wk} {S:Sp} {k:Nat} {v v4:Value} (h:PgI w w7 wr p N F a cap L gs sl cs DW S k v) (hF:∀k,F k->k<w7.heap.size) (h7:w.heap.size+2<=w7.heap.size) (hi:∀k,obl a k->k<w7.heap.size) (hk:¬DW.kd.getD k 0=0) (ho:OwnI w7.heap.size w4 v4 (rsg DW.kd k++[(k:Int)])) (hb:Below w7.heap.size wr w4):
  PgI w w7 (w4.setCell ⟨p,14,none⟩ v4) p N F a cap L gs sl cs DW S (k+1) v4:=by
 have hr4:RWA w4 p F a cap L (qk gs sl cs v) DW:=h.wk.rw.low hF hi hb
 have hW4:WkS w w4 p N F a cap L (qk gs sl cs v) DW S:=
  {rw:=hr4,bel:=h.wk.bel.trans (hb.mono (by omega)),s:=(hb.block _ (by omega)).trans h.wk.s,r:=(hb.block _ (by omega)).trans h.wk.r,lo:=h.wk.lo,kl:=h.wk.kl,n0:=h.wk.n0,ilo:=h.wk.ilo}
 have hc:Ch w4.heap.size F w4 (w4.setCell ⟨p,14,none⟩ v4):=Ch.set hr4.fp _ _;have hq:=hr4.setQ 14 10 (.inr (.inl ⟨rfl,rfl⟩)) v4;rw [qk_set] at hq;refine ⟨hW4.step hq (Step.of hc) h.wk.kl,?_,(h.ch.trans (Ch.of F hb)).trans (hc.mono (jP h.ch.size hb.size) (fun _ _ e=>e))⟩;rw [gF hk];refine yQ ho (fun g hg=>Below.heap_setCell w4 ⟨p,14,none⟩ _ g (fun e=>?_));have:=(World.ownsRow.lt ho g hg).1;have h2:=hF p hr4.fp;have e':g=p:=e;omega
theorem qk0 (gs:Option Addr) (sl cs:Nat):(fun k=>if k=9 then (.slice gs sl cs:Value) else q00 k)=qk gs sl cs (.slice none 0 0):=by
 funext k
 unfold qk;by_cases h:k=10
 ·subst h;rfl
 ·simp [h]
theorem waB_is {L:List Int} {S:Sp} {DW:Wk} {fr:List Int} {N:Nat} (hD:wkD L S=(DW,fr)) (hN:pgN L=N):waB L S=(!DW.bad&&(decide (fr.length=(N+7)/8)&&(List.range (fr.length*8)).all (frB fr DW.kd N))):=by
 unfold waB;rw [hD,hN]
theorem GV {f:Nat->Bool} {n k:Nat} (hk:k<n) (h:f k=false):(List.range n).all f=false:=by
 cases e:(List.range n).all f with
 |false=>rfl
 |true=>
  have:=List.all_eq_true.1 e k (List.mem_range.2 hk);rw [h] at this;cases this
theorem all_yes {f:Nat->Bool} {n:Nat} (h:∀k,k<n->f k=true):(List.range n).all f=true:=List.all_eq_true.2 fun k hk=>h k (List.mem_range.1 hk)
theorem walk_end {w w7 wr:World} {p N:Nat} {F:Nat->Prop} {a:Option Addr} {cap:Nat} {L:List Int} {gs:Option Addr} {sl cs:Nat} {DW:Wk} {S:Sp} {ag:Option Addr} {ng cg:Nat} {st:List Int}
  (h:PgI w w7 wr p N F a cap L gs sl cs DW S N (.slice ag ng cg)) (hgs:Row w7 gs cs st) (hgk:∀k,obl gs k->¬F k/\k<w7.heap.size/\w.heap.size+2<=k) (hsl:st.length=sl) (hpc:∀x∈DW.pc,wfC x) (h7:w.heap.size+2<=w7.heap.size) (hng:(rsg DW.kd N).length=ng) (hF:∀k,F k->k<w7.heap.size):
  ∃w9 aP cP aT cT,(StS (.pointer (some ⟨p,2,none⟩)) (.agg (spC S))).run prog wr=.ok () w9/\(w9.cell? ⟨p,10,none⟩=some (.int .i64 0)/\w9.cell? ⟨p,15,none⟩=some (.int .i64 0))/\(∀i,w9.frozen? ⟨p,i,none⟩=false)/\w9.cell? ⟨w.heap.size,3,none⟩=some (.int .i64 S.h)/\¬w.heap.size=p/\
   ∀w11,w11=(w9.setCell ⟨p,10,none⟩ (.int .i64 (-1))).setCell ⟨p,15,none⟩ (.int .i64 S.h)->
    (LdR (.pointer (some ⟨p,2,none⟩))).run prog w11=.ok (.agg (rpC S (-1) (.slice aP DW.pc.length cP) (.slice aT DW.tx.length cT) (.slice gs sl cs) (.slice ag ng cg) S.h)) w11/\
    (StR (.pointer (some ⟨w.heap.size+1,0,none⟩)) (.agg (rpC S (-1) (.slice aP DW.pc.length cP) (.slice aT DW.tx.length cT) (.slice gs sl cs) (.slice ag ng cg) S.h))).run prog w11=.ok () (w11.setRow (w.heap.size+1) (rpC S (-1) (.slice aP DW.pc.length cP) (.slice aT DW.tx.length cT) (.slice gs sl cs) (.slice ag ng cg) S.h))/\
    (w11.setRow (w.heap.size+1) (rpC S (-1) (.slice aP DW.pc.length cP) (.slice aT DW.tx.length cT) (.slice gs sl cs) (.slice ag ng cg) S.h)).heap[w.heap.size+1]?=some (.cells (rpC S (-1) (.slice aP DW.pc.length cP) (.slice aT DW.tx.length cT) (.slice gs sl cs) (.slice ag ng cg) S.h) 95 (0,0))/\
    Below w.heap.size w (w11.setRow (w.heap.size+1) (rpC S (-1) (.slice aP DW.pc.length cP) (.slice aT DW.tx.length cT) (.slice gs sl cs) (.slice ag ng cg) S.h))/\
    RepIs w.heap.size (w11.setRow (w.heap.size+1) (rpC S (-1) (.slice aP DW.pc.length cP) (.slice aT DW.tx.length cT) (.slice gs sl cs) (.slice ag ng cg) S.h)) (.agg (rpC S (-1) (.slice aP DW.pc.length cP) (.slice aT DW.tx.length cT) (.slice gs sl cs) (.slice ag ng cg) S.h)) ⟨S,-1,DW.pc,DW.tx,st,rsg DW.kd N,S.h⟩:=by
 obtain ⟨gk,ck,aP,aT,cP,cT,hR⟩:=h.wk.rw;obtain ⟨w9,hst,hc9,hch9⟩:=setS S hR.cells;have hlo:=h.wk.lo p hR.fp;have hlt:=h.wk.lt;have hws:¬w.heap.size=p:=by omega
 have hcell:∀i,w9.cell? ⟨p,i,none⟩=(wcs a L.length cap gk DW.kd.length ck (qS S (qk gs sl cs (.slice ag ng cg))) aP DW.pc.length cP aT DW.tx.length cT DW.bad)[i]?:=fun i=>cell_of_row w9 p _ _ _ (0,0) hc9
 refine ⟨w9,aP,cP,aT,cT,hst,⟨by rw [hcell];rfl,by rw [hcell];rfl⟩,fun i=>by unfold World.frozen?;rw [hc9];simp,?_,hws,?_⟩
 ·exact (World.cell?_of_block (w:=wr) (a:=⟨w.heap.size,3,none⟩) (hch9.block w.heap.size (by omega) hws)).trans h.wk.at.2.2.1
 ·rintro w11 rfl;obtain ⟨cx,hcx⟩:∃cx,(rpC S (-1) (.slice aP DW.pc.length cP) (.slice aT DW.tx.length cT) (.slice gs sl cs) (.slice ag ng cg) S.h)=cx:=⟨_,rfl⟩;have hcs:cx.size=14:=by rw [<-hcx];rfl
  have hco:cx.all (·.oneCell')=true:=by rw [<-hcx];exact VS ..
  have h10:=yO w9 p 10 (.int .i64 (-1)) _ _ _ hc9;have h15:=yO _ p 15 (.int .i64 S.h) _ _ _ h10;have hgr:=getR (w:=(w9.setCell ⟨p,10,none⟩ (.int .i64 (-1))).setCell ⟨p,15,none⟩ (.int .i64 S.h)) (p:=p) (ia:=a) (il:=L.length) (ic:=cap) (gk:=gk) (kl:=DW.kd.length) (ck:=ck) (aP:=aP) (nP:=DW.pc.length) (cP:=cP) (aT:=aT) (nT:=DW.tx.length) (cT:=cT) (bad:=DW.bad) (q:=fun i=>if i=11 then .int .i64 S.h else if i=8 then .int .i64 (-1) else qS S (qk gs sl cs (.slice ag ng cg)) i) (by rw [h15];rfl);have hc11:Ch wr.heap.size (fun x=>x=p) wr ((w9.setCell ⟨p,10,none⟩ (.int .i64 (-1))).setCell ⟨p,15,none⟩ (.int .i64 S.h)):=(hch9.setCell (p:=⟨p,10,none⟩) (.inr rfl) _).setCell (p:=⟨p,15,none⟩) (.inr rfl) _;obtain ⟨w11,hw11⟩:∃w11,(w9.setCell ⟨p,10,none⟩ (.int .i64 (-1))).setCell ⟨p,15,none⟩ (.int .i64 S.h)=w11:=⟨_,rfl⟩;rw [hw11] at hgr hc11 ⊢;have hrB:w11.heap[w.heap.size+1]?=some (.cells rp0C 95 (0,0)):=(hc11.block _ hlt (by omega)).trans h.wk.r;rw [hcx];have hk12:∀g,g≠p->g≠w.heap.size+1->g<wr.heap.size->(w11.setRow (w.heap.size+1) cx).heap[g]?=wr.heap[g]?:=fun g h1 h2 h3=>(setRow_other w11 _ g cx h2).trans (hc11.block g h3 h1)
  refine ⟨?_,UZ hrB rfl hcs hco,setRow_heap w11 _ _ _ _ _ hrB,?_,?_⟩
  ·rw [hgr,<-hcx];rfl
  ·have hb:Below w.heap.size w w11:=h.wk.bel.trans ((hc11.mono h.wk.bel.size (fun _ _ e=>e)).below (fun k hk=>by subst hk;omega));exact ((Ch.of (fun _=>False) hb).setRow (.inl (by omega)) _).below (fun k e=>by cases e)
  ·have hlF:∀k,F k->k<wr.heap.size:=h.wk.rw.lt;refine ⟨aP,cP,aT,cT,gs,cs,ag,cg,by rw [<-hcx];simp only [hsl,hng],?_,?_,?_,?_,fun k hk=>?_⟩
   ·have:=(OwnC.row' hR.pc hpc).2.1;exact this.keepO (fun g hg=>hk12 g (fun e=>hR.pP (e▸hg)) (fun e=>by have:=h.wk.lo g (hR.fP g hg);omega) (hlF g (hR.fP g hg)))
   ·exact (hR.tx.row' hR.tb).2.keepO (fun g hg=>hk12 g (fun e=>hR.pT (e▸hg)) (fun e=>by have:=h.wk.lo g (hR.fT g hg);omega) (hlF g (hR.fT g hg)))
   ·have h1:Row wr gs cs st:=hgs.keepO (fun g hg=>h.ch.block g (hgk g hg).2.1 (hgk g hg).1);exact h1.keepO (fun g hg=>hk12 g (fun e=>(hgk g hg).1 (e▸hR.fp)) (fun e=>by have:=(hgk g hg).2.2;omega) (by have:=(hgk g hg).2.1;have:=h.ch.size;omega))
   ·obtain ⟨a',c',e,hr⟩:=OwnI.row h.own;simp only [Value.slice.injEq] at e;obtain ⟨rfl,-,rfl⟩:=e;obtain ⟨r1,r2,r3⟩:=hr;refine ⟨r1,r2,?_⟩;rcases r3 with r3|⟨b,off,e,hc⟩
    ·exact .inl r3
    ·have hlo2:w7.heap.size<=b/\b<wr.heap.size:=World.ownsRow.lt h.own b (by rw [e];rfl);refine .inr ⟨b,off,e,fun i hi=>(World.cell?_of_block (w:=wr) (a:=⟨b,off+i,none⟩) (hk12 b (fun e=>by have:=hF p hR.fp;omega) (by omega) hlo2.2)).trans (hc i hi)⟩
   ·rcases hk with hk|hk|hk|hk
    ·have:=h.wk.lo k (hR.fP k hk);omega
    ·have:=h.wk.lo k (hR.fT k hk);omega
    ·have:=(hgk k hk).2.2;omega
    ·have:=(World.ownsRow.lt h.own k (zI hk)).1;omega
theorem wk_pcs {L:List Int} (hL:Bys L) (h4:pgN L<=4096) {S:Sp} (hS:okS S=true) (h:waE L S=0):∀x∈(waR L S).pc,wfC x:=by
 rcases su_wa hL h4 hS with ⟨-,h2⟩|⟨h1,-⟩
 ·obtain ⟨-,T,R2,st,R3,fr,k1,-,-,-,e⟩:=h2;rw [e];exact fun x hx=>wfC_ok ((suT_in hL k1.t).2 x hx)
 ·rw [h] at h1;cases h1
end Go.Proofs.YtaijfhadecennaaGreat.Oct
