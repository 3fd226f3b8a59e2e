/- Part of a proof. -/
import Derived.Test.YtaijfhadecennabGreatEad
import Derived.Test.YtaijfhadecennabGreatEml
import Derived.Test.YtaijfhadecennabGreatEmt
open Go.Proofs.Tryz
set_option maxHeartbeats 8000000
namespace Go.Proofs.YtaijfhadecennabGreat.Oct.Sx
open Go.RowKit
section
variable {w0 w w':World} {F0:Nat->Prop} {s d p sp c cC cS:Nat} {aC aS:Option Addr} {lab:Nat->Nat} {X:St} {zs:List Int} {S:Sp}
theorem UsR.box (h:UsR w aS cS zs lab) {b:Nat} (hx:zs=[]\/∀x,aS=some x->x.block≠b) (hc:Ch w.heap.size (fun k=>k=b) w w'):UsR w' aS cS zs lab:=by
 obtain ⟨h1,h2⟩:=h;refine ⟨?_,?_⟩
 ·rcases hx with e|hx
  ·exact ⟨h1.1,h1.2.1,h1.2.2.1,.inl e⟩
  ·exact h1.ch hc (fun x e=>hx x e)
 rcases h2 with e|⟨x,e,h3,h4⟩
 ·exact .inl e
 ·exact .inr ⟨x,e,h3,jV h4 hc.size⟩
theorem LbC.box (h:LbC w0 w F0 lab) {b:Nat} (hb:w0.heap.size<=b) (hc:Ch w.heap.size (fun k=>k=b) w w'):LbC w0 w' F0 lab:=
 ⟨h.old,h.ch.trans (hc.mono h.ch.size (fun k hk e=>by omega))⟩
theorem Agr.refl (B:Nat) (lab:Nat->Nat):Agr B lab lab:=fun _ _=>rfl
theorem CmC.box {vC vT vB:Value} {bg:Bool} (h:CmC w0 w F0 s d p sp c aC cC lab X aS cS zs S vC vT vB bg) {b:Nat} (hb:10<=lab b) (h0:w0.heap.size<=b) (hx:zs=[]\/∀x,aS=some x->x.block≠b) (hc:Ch w.heap.size (fun k=>k=b) w w'):CmC w0 w' F0 s d p sp c aC cC lab X aS cS zs S vC vT vB bg:=
 have t:Trn lab (lab b) w w':=Trn.ch hc (fun k hk=>by rw [hk]);have g:=Agr.refl w.heap.size lab;have hl:=yO h.cm
 ⟨h.sto.keepL (by omega) t g,h.lb.box h0 hc,h.us.box hx hc,(t.block hl (by rw [h.lc];omega)).trans h.cm,h.lc⟩
theorem CmT.box {bg:Bool} {q1 q2 cP:Nat} {P1 P2 pgs:List Int} {aP:Option Addr} (h:CmT w0 w F0 s d p sp c aC cC lab X aS cS zs S bg q1 P1 q2 P2 aP cP pgs) {b:Nat} (hb:10<=lab b) (h0:w0.heap.size<=b) (hx:zs=[]\/∀x,aS=some x->x.block≠b) (hc:Ch w.heap.size (fun k=>k=b) w w'):CmT w0 w' F0 s d p sp c aC cC lab X aS cS zs S bg q1 P1 q2 P2 aP cP pgs:=
 have t:Trn lab (lab b) w w':=Trn.ch hc (fun k hk=>by rw [hk]);have g:=Agr.refl w.heap.size lab
 ⟨h.cm.box hb h0 hx hc,h.tk.keep t (by omega) g,h.bh.keep t (by omega) g,h.pg.keep t (by omega) g⟩
theorem CmC.self {vC vT vB:Value} {bg:Bool} (h:CmC w0 w F0 s d p sp c aC cC lab X aS cS zs S vC vT vB bg):CmC w w (fun k=>lab k<=9) s d p sp c aC cC lab X aS cS zs S vC vT vB bg:=⟨h.sto,⟨fun _ hk=>.inl hk,Ch.refl _ _ _⟩,h.us,h.cm,h.lc⟩
theorem CmT.self {bg:Bool} {q1 q2 cP:Nat} {P1 P2 pgs:List Int} {aP:Option Addr} (h:CmT w0 w F0 s d p sp c aC cC lab X aS cS zs S bg q1 P1 q2 P2 aP cP pgs):CmT w w (fun k=>lab k<=9) s d p sp c aC cC lab X aS cS zs S bg q1 P1 q2 P2 aP cP pgs:=⟨h.cm.self,h.tk,h.bh,h.pg⟩
theorem CmC.base {w1:World} {lb:Nat->Nat} {vC vT vB:Value} {bg:Bool} (h:CmC w1 w' (fun k=>lb k<=9) s d p sp c aC cC lab X aS cS zs S vC vT vB bg) (h0:LbC w0 w1 F0 lb):CmC w0 w' F0 s d p sp c aC cC lab X aS cS zs S vC vT vB bg:=⟨h.sto,h.lb.base h0,h.us,h.cm,h.lc⟩
end
def ComR (X:St) (pl:Nat) (r:Rp) (T:List (Sp × Rp)) (zs:List Int) (m a:Nat) (E:Int) (X':St) (pl':Nat) (r':Rp) (T':List (Sp × Rp)):Prop:=
 (E=3/\1048576<zs.length/\X'=X/\pl'=pl/\r'=r/\T'=T)\/(E=6/\¬m<=X.P.count 0/\X'=X/\pl'=pl/\r'=r/\T'=T)\/
 (E=7/\m<=X.P.count 0/\Bad X.D X'.D/\X'={X with D:=X'.D,L:=X'.L}/\pl'=pl/\r'=r/\T'=T)\/
 (E=7/\m<=X.P.count 0/\Bad X.D X'.D/\X'={X with D:=X'.D,L:=X'.L,P:=dbS X.P m,g:=X.g+1}/\pl'=pl/\r'=r/\T'=(sp1 X m a,rp1 X m a zs)::T)\/
 (E=0/\m<=X.P.count 0/\X'={X with D:=X'.D,L:=X'.L,P:=dnS X.P X.C m,S:=sp1 X m a,pl:=((1-pl:Nat):Int),C:=tkG m X.P,g:=X.g+1}/\pl'=1-pl/\r'=rp1 X m a zs/\T'=[])
def ComE (w0 w:World) (F0:Nat->Prop) (s d:Nat) (X:St) (pl:Nat) (r:Rp) (T:List (Sp × Rp)) (zs:List Int) (m a:Nat) (E:Int):Prop:=
 ∃X' pl' r' T',ComR X pl r T zs m a E X' pl' r' T'/\In X'.D X'.N X'.L X'.P X'.S pl' X'.C X'.g r' T'/\X'.pl=(pl':Int)/\Aft X.D X.L (tkG m X.P) 12000 X'.D X'.L/\StoO w0 w F0 s d X'
section
variable {w:World} {s d cS:Nat} {aS:Option Addr} {X:St} {zs:List Int} {F:Nat->Prop} {pl:Nat} {r:Rp} {T:List (Sp × Rp)}
theorem Commit_any (h:Sto w s d F X) (hI:In X.D X.N X.L X.P X.S pl X.C X.g r T) (hpl:X.pl=(pl:Int)) (hr:Row w aS cS zs) (hu:zs=[]\/∀k,obl aS k->k<w.heap.size/\¬F k) (hzl:zs.length<=1000000000) (hg:X.g+1<=1000000000) (hops:X.D.ops+12000<=1000000000) (hsi:X.D.since.length+12000<=900000):
  Calls prog 21 #[.pointer (some ⟨s,0,none⟩),spV (sup 0 0 0 0),.slice aS zs.length cS] w fun e w'=>∃k,e=.returned (.int .i64 k)/\ComE w w' F s d X pl r T zs (ned zs.length+ned ((X.D.n+7)/8)) (ned zs.length) k:=by
 obtain ⟨p,sp,aC,cC,lab0,hS,hlab,hlt⟩:=h;have hg0:0<=X.g:=by have h1:=hI.gs;have h2:=(YS hI.jv.sp).1;omega
 refine GU hS ⟨hg0,hg⟩ _ fun wC hb hsz hcm=>?_
 obtain ⟨m,hm⟩:∃m,ned zs.length+ned ((X.D.n+7)/8)=m:=⟨_,rfl⟩;obtain ⟨a,ha⟩:∃a,ned zs.length=a:=⟨_,rfl⟩;obtain ⟨labC,hlC⟩:∃l:Nat->Nat,l=fun k=>if k<w.heap.size then (if lab0 k<=3 then lab0 k else 10) else if k=w.heap.size+1 then 4 else 10:=⟨_,rfl⟩
 have cLo:∀k,k<w.heap.size->labC k=if lab0 k<=3 then lab0 k else 10:=fun k hk=>by rw [hlC];exact if_pos hk
 have cC1:labC (w.heap.size+1)=4:=by rw [hlC];show (if _ then _ else _)=_;rw [if_neg (by omega),if_pos rfl]
 have hSC:StoC wC s d p sp aC cC labC X:=by
  have h1:StoC w s d p sp aC cC (fun k=>if lab0 k<=3 then lab0 k else 10) X:=stoC_rel hS (fun k hk=>if_pos hk);exact h1.keepL (i:=9) (by decide) (Trn.below hb) (fun k hk=>cLo k hk)
 have hlbC:LbC w wC F labC:=by
  refine ⟨fun k hk=>?_,Ch.of F hb⟩;by_cases hk2:k<w.heap.size
  ·rw [cLo k hk2] at hk;split at hk
   ·next h3=>exact .inl (hlab k h3)
   ·omega
  ·exact .inr (by omega)
 have hus:UsR wC aS cS zs labC:=by
  refine ⟨hr.below hb,?_⟩;rcases hu with e|hu
  ·exact .inl e
  rcases row_in hr with e|⟨x,e⟩
  ·exact .inl e
  ·obtain ⟨u1,u2⟩:=hu x.block ⟨x,e,rfl⟩;refine .inr ⟨x,e,?_,jV u1 hb.size⟩;rw [cLo _ u1,if_neg (fun h3=>u2 (hlab _ h3))];exact jB _
 have hC:CmC w wC F s d p sp (w.heap.size+1) aC cC labC X aS cS zs (sup (X.g+1) X.D.n 0 0) (.slice none 0 0) (.pointer none) (.pointer none) false:=⟨hSC,hlbC,hus,hcm,cC1⟩;have hx0:zs=[]\/∀x,aS=some x->x.block<w.heap.size:=hu.imp id (fun hu x e=>(hu x.block ⟨x,e,rfl⟩).1);have hbx:Below wC.heap.size wC (bxF wC (w.heap.size+1)):=((Below.refl _ wC).alloc (jB _) _).alloc (by simp) _;have hbs:(bxF wC (w.heap.size+1)).heap.size=wC.heap.size+2:=by unfold bxF;simp
 have hbA:BxAt wC (bxF wC (w.heap.size+1)) (w.heap.size+1):=⟨heap_alloc2_old wC _ _,heap_alloc2_new wC _ _⟩;have hCB:=hC.keep (i:=9) (by decide) (by decide) (Trn.below hbx) (Agr.relab wC.heap.size 10 labC);obtain ⟨lb,hlb⟩:∃l,relab labC wC.heap.size 10=l:=⟨_,rfl⟩;rw [hlb] at hCB;have lb10:∀k,wC.heap.size<=k->lb k=10:=fun k hk=>by rw [<-hlb];exact zY hk
 have h0:=hCB.lb;have hrun:=run_any hCB.self hI hpl hr.1 hzl hg hops hsi;rw [hm,ha] at hrun
 have keepB:∀{w1:World},Ch (bxF wC (w.heap.size+1)).heap.size (fun k=>lb k<=9) (bxF wC (w.heap.size+1)) w1->BxAt wC w1 (w.heap.size+1):=fun {w1} hc=>
  ⟨(hc.block _ (by omega) (by rw [lb10 _ (jB _)];omega)).trans hbA.1,(hc.block _ (by omega) (by rw [lb10 _ (by omega)];omega)).trans hbA.2⟩
 have hca:=kF wC (w.heap.size+1) (fun w1=>RunE (bxF wC (w.heap.size+1)) (fun k=>lb k<=9) s d p sp (w.heap.size+1) aC cC X aS cS zs pl r T m a (.returned (.tuple #[])) w1)
  (fun E w1=>RunE (bxF wC (w.heap.size+1)) (fun k=>lb k<=9) s d p sp (w.heap.size+1) aC cC X aS cS zs pl r T m a (thrown E) w1)
  (fun E w1=>ComE w w1 F s d X pl r T zs m a E)
  (hrun.mono (by
   intro e w1 he;have he':=he;rcases he with ⟨E,e1,e2,lab,e3⟩|⟨e1,e2,D',L',lab,q1,q2,aP,cP,e3,e4,e5⟩|⟨e1,e2,D',L',lab,q1,q2,aP,cP,e3,e4,e5⟩|⟨e1,e2,e3,D',L',e4,e5,q2,aP,cP,lab,e6,e7,e8⟩
   ·exact ⟨keepB e3.lb.ch,.inr ⟨E,e1,by rw [e1] at he';exact he'⟩⟩
   ·exact ⟨keepB e3.cm.lb.ch,.inr ⟨7,e2,by rw [e2] at he';exact he'⟩⟩
   ·exact ⟨keepB e3.cm.lb.ch,.inr ⟨7,e2,by rw [e2] at he';exact he'⟩⟩
   ·exact ⟨keepB e8,.inl ⟨e3,by rw [e3] at he';exact he'⟩⟩))
  ?_
 ·refine hca.mono ?_;rintro e w' (⟨w1,rfl,hR,hB,rfl⟩|⟨k,rfl,hR⟩)
  ·refine ⟨0,rfl,?_⟩;rw [hm,ha];rcases hR with ⟨E,e1,_⟩|⟨_,e2,_⟩|⟨_,e2,_⟩|⟨e1,e2,e3,D',L',e4,e5,q2,aP,cP,lab,e6,e7,e8⟩
   ·unfold thrown at e1;cases e1
   ·unfold thrown at e2;cases e2
   ·unfold thrown at e2;cases e2
   ·have hc1:Ch w1.heap.size (fun k=>k=wC.heap.size+1) w1 (w1.setCell ⟨wC.heap.size+1,0,none⟩ (.int .i64 0)):=Ch.set (F:=fun k=>k=wC.heap.size+1) (p:=wC.heap.size+1) rfl 0 _
    have hl4:4<=lab (wC.heap.size+1):=by
     by_cases h3:lab (wC.heap.size+1)<=3
     ·rcases e7 _ h3 with h4|h4
      ·rw [lb10 _ (by omega)] at h4;omega
      ·omega
     ·omega
    have hst:=e6.keepL hl4 (Trn.ch hc1 (fun k hk=>by rw [hk])) (Agr.refl _ lab)
    have hch:Ch w.heap.size F w w1:=h0.ch.trans (e8.mono (by have:=hb.size;omega) (fun k hk e=>by
     rcases h0.old k e with h4|h4
     ·exact h4
     ·omega))
    refine ⟨_,1-pl,rp1 X m a zs,[],.inr (.inr (.inr (.inr ⟨rfl,e1,rfl,rfl,rfl,rfl⟩))),e4,rfl,e5,p,q2,aP,cP,lab,hst,fun k hk=>?_,hch.trans (hc1.mono hch.size (fun k hk e=>by omega))⟩;rcases e7 k hk with h4|h4
    ·exact h0.old k h4
    ·exact .inr (by have:=hb.size;omega)
  ·exact ⟨k,rfl,by rw [hm,ha];exact hR⟩
 ·intro E w1 hB hR;have hc1:Ch w1.heap.size (fun k=>k=wC.heap.size+1) w1 (w1.setCell ⟨wC.heap.size+1,0,none⟩ (.int .i64 E)):=Ch.set (F:=fun k=>k=wC.heap.size+1) (p:=wC.heap.size+1) rfl 0 _;have hcell:(w1.setCell ⟨wC.heap.size+1,0,none⟩ (.int .i64 E)).cell? ⟨wC.heap.size+1,0,none⟩=some (.int .i64 E):=World.cell?_setCell_same _ _ _ hB.at.1;have hx1:zs=[]\/∀x,aS=some x->x.block≠wC.heap.size+1:=hx0.imp id (fun hx0 x e=>by have:=hx0 x e;have:=hb.size;omega);have hw1:w.heap.size<=wC.heap.size+1:=by have:=hb.size;omega
  obtain ⟨wS,hwS⟩:∃wS,w1.setCell ⟨wC.heap.size+1,0,none⟩ (.int .i64 E)=wS:=⟨_,rfl⟩;rw [hwS] at hc1 hcell ⊢
  have hl:∀{lab:Nat->Nat},LbC (bxF wC (w.heap.size+1)) w1 (fun k=>lb k<=9) lab->10<=lab (wC.heap.size+1):=fun {lab} h=>by
   by_cases h9:lab (wC.heap.size+1)<=9
   ·rcases h.old _ h9 with h4|h4
    ·rw [lb10 _ (by omega)] at h4;omega
    ·omega
   ·omega
  have hbl:wC.heap.size+1<wS.heap.size:=by have h1:=yO hB.2;have h2:=hc1.size;omega
  rcases hR with ⟨E',e1,e2,lab,e3⟩|⟨hmc,e2,D',L',lab,q1,q2,aP,cP,e3,e4,e5⟩|⟨hmc,e2,D',L',lab,q1,q2,aP,cP,e3,e4,e5⟩|⟨_,_,e3,_⟩
  ·have hEE:E'=E:=by unfold thrown at e1;cases e1;rfl
   subst hEE;have hC1:=(e3.base h0).box (hl e3.lb) hw1 hx1 hc1;refine (fail_nil hC1).mono ?_;rintro e w' ⟨rfl,rfl⟩;refine ⟨rfl,hcell,?_⟩;rcases e2 with ⟨e4,e5⟩|⟨e4,e5⟩
   ·exact ⟨X,pl,r,T,.inl ⟨e4,e5,rfl,rfl,rfl,rfl⟩,hI,hpl,Aft.refl _ _ _ _,hC1.sto.toO hC1.lb⟩
   ·exact ⟨X,pl,r,T,.inr (.inl ⟨e4,e5,rfl,rfl,rfl,rfl⟩),hI,hpl,Aft.refl _ _ _ _,hC1.sto.toO hC1.lb⟩
  ·have hEE:E=7:=by unfold thrown at e2;cases e2;rfl
   subst hEE;obtain ⟨pg1,pg2,_⟩:=hI.pi.pg hmc;have hgl:=yU m X.P;have hm4:m<=4096:=by have h1:=List.count_le_length (a:=(0:Int)) (l:=X.P);have h2:=hI.pi.len;have h3:=hI.jv.ok.n4;omega
   have hm1:0<(tkG m X.P).length:=by have h8:=hI.jv.ok.n8;rw [hgl,<-hm];unfold ned;omega
   obtain ⟨gp,rfl⟩:=QR e3.pg.1 hm1;have hT1:=(e3.base h0).box (hl e3.cm.lb) hw1 hx1 hc1;have hlt1:=hl e3.cm.lb;refine (fail_no hT1.self (fun z hz=>by have:=yR pg1 z hz;omega) (by omega)).mono ?_;rintro e w' ⟨rfl,lab2,hT2⟩;have hT3:=hT2.base hT1.cm.lb;obtain ⟨i1,i2⟩:=mid_back hI e4 pg1;refine ⟨rfl,(World.cell?_of_block (w:=wS) (hT2.cm.lb.ch.block (wC.heap.size+1) hbl (by show ¬lab (wC.heap.size+1)<=9;omega))).trans hcell,{X with D:=D',L:=fgA L' (tkG m X.P)},pl,r,T,.inr (.inr (.inl ⟨rfl,hmc,e5,rfl,rfl,rfl,rfl⟩)),i1,hpl,i2,hT3.cm.sto.toO hT3.cm.lb⟩
  ·have hEE:E=7:=by unfold thrown at e2;cases e2;rfl
   subst hEE;obtain ⟨pg1,pg2,_⟩:=hI.pi.pg hmc;have hgl:=yU m X.P;have hm4:m<=4096:=by have h1:=List.count_le_length (a:=(0:Int)) (l:=X.P);have h2:=hI.pi.len;have h3:=hI.jv.ok.n4;omega
   have hm1:0<(tkG m X.P).length:=by have h8:=hI.jv.ok.n8;rw [hgl,<-hm];unfold ned;omega
   obtain ⟨gp,rfl⟩:=QR e3.pg.1 hm1;have hT1:=(e3.base h0).box (hl e3.cm.lb) hw1 hx1 hc1;have hlt1:=hl e3.cm.lb;refine (fail_yes hT1.self (fun z hz=>by have:=yR pg1 z hz;omega) (by omega)).mono ?_;rintro e w' ⟨rfl,⟨lab2,hS2,hlo2⟩,hch2⟩;obtain ⟨i1,i2⟩:=in_back e4 e5.1 pg1;have hb0:=hT1.cm.lb;refine ⟨rfl,(World.cell?_of_block (w:=wS) (hch2.block (wC.heap.size+1) hbl (by show ¬lab (wC.heap.size+1)<=9;omega))).trans hcell,{X with D:=D',L:=fgA L' (tkG m X.P),P:=dbS X.P m,g:=X.g+1},pl,r,_,.inr (.inr (.inr (.inl ⟨rfl,hmc,e5.2,rfl,rfl,rfl,rfl⟩))),i1,hpl,i2,p,q1,aC,cC,lab2,hS2,fun k hk=>?_,hb0.ch.trans (hch2.mono hb0.ch.size (fun k hk e=>by rcases hb0.old k e with h4|h4;exact h4;omega))⟩;rcases hlo2 k hk with h4|h4
   ·exact hb0.old k h4
   ·exact .inr (by have:=hb0.ch.size;omega)
  ·unfold thrown at e3;cases e3
end
end Go.Proofs.YtaijfhadecennabGreat.Oct.Sx
namespace Go.Proofs.YtaijfhadecennabGreat.Oct
open Go.RowKit
theorem Well.wrote {D:Dv} (h:Well D) (ok:D.ok) {k:Nat} {b:List Int} (hk:k<D.n) (hb:b.length=256):
  pageOf (writeD D k b).now k=b/\∀q,q<D.n->q≠k->pageOf (writeD D k b).now q=pageOf D.now q:=by
 have hn:=ok.now;rw [h.writeNow];refine ⟨by rw [JU (by omega) (by omega) hb,if_pos rfl],fun q hq hne=>?_⟩;rw [JU (by omega) (by omega) hb,if_neg hne]
theorem Well.writeS {D:Dv} (h:Well D) (k:Nat) (b:List Int):(writeD D k b).since=D.since++[(k,b)]/\(writeD D k b).sure=D.sure/\(writeD D k b).ops=D.ops+1:=by
 rw [h.writeE];exact ⟨rfl,rfl,rfl⟩
structure FmD (D0:Dv) (pz:List Int) (sh:List (List Int)) (k:Nat) (D:Dv):Prop where
 ok:D.ok
 well:Well D
 n:D.n=D0.n
 ops:D.ops<=D0.ops+k
 since:D.since.length<=D0.since.length+k
 at_:∀j,j<k->pageOf D.now (pz.getD j 0).toNat=sh.getD j []
theorem FmD.step {D0 D:Dv} {pz:List Int} {sh:List (List Int)} {k:Nat} (h:FmD D0 pz sh k D) (hp:CtOk pz) (hk:k<pz.length) (hn:∀z∈pz,z<(D0.n:Int)) (hb:(sh.getD k []).length=256) (hy:Bys (sh.getD k [])):
  FmD D0 pz sh (k+1) (writeD D (pz.getD k 0).toNat (sh.getD k [])):=by
 have hm:∀j,j<pz.length->pz.getD j 0∈pz:=fun j hj=>by rw [jA,jC hj];exact qA _
 have hz:=hn _ (hm k hk);have h2:=hp k hk;have hkn:(pz.getD k 0).toNat<D.n:=by rw [h.n];omega
 obtain ⟨w1,w2⟩:=h.well.wrote h.ok hkn hb;obtain ⟨s1,s2,s3⟩:=h.well.writeS (pz.getD k 0).toNat (sh.getD k []);refine ⟨QM h.ok hkn hb hy,h.well.write _ _,by rw [zH];exact h.n,by rw [s3];have:=h.ops;omega,by rw [s1,jO,List.length_singleton];have:=h.since;omega,fun j hj=>?_⟩;by_cases hjk:j=k
 ·subst hjk;exact w1
 ·have hz2:=hn _ (hm j (by omega));have h3:=hp j (by omega);have h4:=h2.2 j (by omega);rw [w2 _ (by rw [h.n];omega) (by omega)];exact h.at_ j (by omega)
theorem fm_kind0:(opP (List.replicate 256 0)).kind≠1:=by decide+kernel
theorem fm_deB {P:Pg} (h:P.kind≠1):deB P=false:=by
 unfold deB;simp [h]
set_option maxRecDepth 8000 in
theorem fm_de0:deE (List.replicate 256 0)≠0:=by
 unfold deE;split
 ·rw [fm_deB fm_kind0];decide
 ·assumption
theorem zero_oth (S:Sp):Othr S [] (List.replicate 256 0):=⟨nou_sbz,.inl fm_de0⟩
theorem ZQ {n i:Nat} (hn:8<=n):(newS n).getD i 0=if i<2 then 1 else 0:=by
 unfold newS;rw [jA,xX,xX,qU];simp only [qC,jJ];by_cases h0:i=0
 ·subst h0;rw [if_neg (by omega),if_pos rfl,if_pos (by omega),if_pos (by omega)];rfl
 ·by_cases h1:i=1
  ·subst h1;rw [if_pos rfl,if_pos (by omega),if_pos (by omega)];rfl
  ·rw [if_neg (by omega),if_neg (by omega),if_neg (show ¬i<2 by omega)];split<;>rfl
theorem QU {n:Nat} (h8:8<=n) (h4:n<=4096):PInv n (newS n) [] where
 len:=JF n
 ok:=newS_ok h8 h4
 one:=fun k hk=>by
  rw [ZQ h8];split
  ·next h=>exact ⟨fun _=>.inl h,fun _=>rfl⟩
  ·next h=>exact ⟨fun e=>(by cases e),fun e=>by rcases e with e|e;exact absurd e h;cases e⟩
 two:=fun k hk=>by
  rw [ZQ h8];split<;>simp
 c:=fun i hi=>by cases hi
 cn:=fun z hz=>by cases hz
theorem newS_cnt {n:Nat} (h8:8<=n) (h4:n<=4096):(newS n).count 0+2=n:=
 (QU h8 h4).free fun k hk=>by
  rw [ZQ h8];split
  ·exact .inr rfl
  ·exact .inl rfl
theorem QT {n:Nat} (h8:8<=n) (h4:n<=4096):ned ((n+7)/8)<=(newS n).count 0:=by
 have:=newS_cnt h8 h4;unfold ned;omega
theorem bitL_tr (S:List Int) (hS:∀i,i<S.length->S.getD i 0≠3):bitL (trS 1 0 S)=bitL S:=by
 have hl:(trS 1 0 S).length=S.length:=by simp [trS]
 unfold bitL;rw [hl];refine zA fun i _=>?_
 by_cases hi:i<S.length
 ·have e:(trS 1 0 S).getD i 0=trZ 1 0 (S.getD i 0):=by
   unfold trS;rw [jA,jA,qN,jC hi];rfl
  rw [e];have h3:=hS i hi;unfold trZ usB;split
  ·next h=>rw [h];rfl
  ·first
   |rfl
   |(split
     ·next h=>exact absurd h h3
     ·rfl)
 ·rw [jA,jA,jX (by omega),jX (by omega)]
theorem fmt_in {D0 D:Dv} {n m:Nat} {bs:List Int} (hD:FmD D0 (tkG m (newS n)) (ctL bs (tkG m (newS n))) m D) (hn:D0.n=n) (h8:8<=n) (h4:n<=4096) (hm:m=ned ((n+7)/8)) (hb:bs=bitL (trS 1 0 (tkS m (newS n))))
  {S:Sp} (hS:S=sup 1 n 0 (hd0 (tkG m (newS n)))) (N:Nat) {E:Dv} (hE:E=syncD (writeD (writeD D 1 (List.replicate 256 0)) 0 (enZ S))):
  okS S=true/\In E N [] (trS 1 0 (tkS m (newS n))) S 0 (tkG m (newS n)) 1 (rpA n S [] [] (tkG m (newS n))) []/\Well E/\E.since=[]/\E.n=n/\E.ops<=D0.ops+m+3:=by
 have hi:=QU h8 h4;have hmc:m<=(newS n).count 0:=by rw [hm];exact QT h8 h4
 have hm1:0<m:=by rw [hm];unfold ned;omega
 obtain ⟨p1,p2,p3⟩:=hi.pg hmc;obtain ⟨d1,d2⟩:=hi.done hmc;have g0:gvA (tkS m (newS n)) []=tkS m (newS n):=rfl;rw [g0] at d1;have hgl:=yU m (newS n);have hmem:∀j,j<m->(tkG m (newS n)).getD j 0∈tkG m (newS n):=fun j hj=>by rw [jA,jC (by omega)];exact qA _
 have hf:=yR p1 _ (hmem 0 hm1);have hfn:=p2 _ (hmem 0 hm1);have hok:okS S=true:=by rw [hS];exact fG (by omega) (by omega) (by omega) (by omega) (.inl rfl) (.inr ⟨hf.1,hfn⟩)
 have hZl:(enZ S).length=256:=by rw [ZU,if_pos hok]
 have hnD:D.n=n:=hD.n.trans hn;have b0:(List.replicate 256 (0:Int)).length=256:=jJ;have ok1:=QM hD.ok (pg:=1) (by omega) b0 (QK 256);have n1:(writeD D 1 (List.replicate 256 0)).n=n:=by rw [zH];exact hnD
 have w1:=hD.well.write 1 (List.replicate 256 0);have ok2:=QM ok1 (pg:=0) (by omega) hZl (YL S);have w2:=w1.write 0 (enZ S);have n2:(writeD (writeD D 1 (List.replicate 256 0)) 0 (enZ S)).n=n:=by rw [zH];exact n1
 obtain ⟨a1,a2⟩:=hD.well.wrote hD.ok (k:=1) (by omega) b0;obtain ⟨c1,c2⟩:=w1.wrote ok1 (k:=0) (by omega) hZl;have e3:E=setD (opD (writeD (writeD D 1 (List.replicate 256 0)) 0 (enZ S))):=by rw [hE];exact uF w2.says
 have okE:E.ok:=by rw [hE];exact gB ok2
 have nE:E.n=n:=by rw [e3];exact n2
 have sE:E.since=[]:=by rw [e3];rfl
 have uE:E.sure=(writeD (writeD D 1 (List.replicate 256 0)) 0 (enZ S)).now:=by rw [e3];rfl
 have vE:E.now=E.sure:=by rw [e3];rfl
 have hpN:pgN E.sure=n:=by unfold pgN;rw [okE.sure,nE];omega
 have at0:pageOf E.sure 0=enZ S:=by rw [uE];exact c1
 have at1:pageOf E.sure 1=List.replicate 256 0:=by rw [uE,c2 1 (by omega) (by decide)];exact a1
 have atk:∀q,2<=q->q<n->pageOf E.sure q=pageOf D.now q:=fun q hq hqn=>by rw [uE,c2 q (by omega) (by omega)];exact a2 q (by omega) (by omega)
 have hch:ChAt E.sure bs (tkG m (newS n)):=fun i hi2=>by
  have hz:=yR p1 _ (hmem i (by omega));have hzn:=p2 _ (hmem i (by omega));rw [atk _ (by omega) (by omega),hD.at_ i (by omega)];unfold ctL;rw [jA,qN,List.getElem?_range hi2];rfl
 have hbits:usedL (reaL n [] (natL ((tkG m (newS n)).take 0)) (natL ((tkG m (newS n)).drop 0)))=bs:=by
  rw [<-hi.bits hmc 0,g0,hb,bitL_tr];intro i hi2;rw [zU,JF] at hi2;rw [(tk_at m hmc).2 i (by rw [JF];exact hi2)];split
  ·decide
  ·rw [ZQ h8];split<;>decide
 have hsu:=su_two (L:=E.sure) (g:=1) hpN (st:=[]) (fun z hz=>by cases hz) p1 p2 (a:=0) rfl (by rw [hgl,hm];omega) (fun i hi2=>by cases hi2) (by rw [hbits];exact hch);have hsu2:Su E.sure S (rpA n S [] [] (tkG m (newS n))):=by rw [hS];exact hsu
 refine ⟨hok,?_,?_,sE,nE,?_⟩
 ·exact
  {jv:={ok:=okE,now:=by rw [sE];exact vE,p2:=by omega,sp:=hok,su:=hsu2,at_:=at0,nop:=fun x hx=>(by rw [sE] at hx;cases hx),nor:=fun x hx=>(by rw [sE] at hx;cases hx),
        oth:=by rw [at1];exact zero_oth S,ots:=fun x hx=>(by rw [sE] at hx;cases hx),trd:=fun y hy=>(by cases hy)}
   fi:=FI.nil okE N
   nd:=by rintro k ⟨f,hf,_⟩;cases hf
   pi:=by rw [nE];exact d1
   rc:=fun z hz=>(fJ (A:=[]) (F:=tkG m (newS n)) p1 z hz).2
   tc:=fun y hy=>by cases hy
   gs:=by rw [hS];exact Int.le_refl _
   gt:=fun y hy=>by cases hy
   sp:=by rw [hS,nE];rfl}
 ·rw [hE];exact w2.sync
 ·rw [e3];have o1:=(w1.writeS 0 (enZ S)).2.2;have o2:=(hD.well.writeS 1 (List.replicate 256 0)).2.2;have o3:=hD.ops;show (writeD (writeD D 1 (List.replicate 256 0)) 0 (enZ S)).ops+1<=_;omega
end Go.Proofs.YtaijfhadecennabGreat.Oct
namespace Go.Proofs.YtaijfhadecennabGreat.Oct.Sx
open Go.RowKit
def bxG (w:World):World:=(w.alloc (.cells #[.func (.func 79) #[] #[]] 1)).alloc (.cells #[.int .i64 0] 31)
theorem caught_fmt (w:World) (s:Nat) (R0:World->Prop)
  (hrun:Calls prog 78 #[.pointer (some ⟨s,0,none⟩)] (bxG w) fun e w1=>e=.returned (.tuple #[])/\w1.cell? ⟨w.heap.size+1,0,none⟩=some (.int .i64 0)/\w1.frozen? ⟨w.heap.size+1,0,none⟩=false/\R0 w1):
  Calls prog 51 #[.func (.func 78) #[.pointer (some ⟨s,0,none⟩)] #[],.func (.func 79) #[] #[]] w fun e w'=>∃w1,e=.returned (.int .i64 0)/\R0 w1/\w'=w1.setCell ⟨w.heap.size+1,0,none⟩ (.int .i64 0):=by
 have hmf:∀(fn:Fn) (first cap:Array Value) (w:World),(Instr.makeFunc fn first cap).run prog w=.ok (.func fn first cap) w:=fun _ _ _ _=>rfl
 go_enter_defers func51,ntmps51
 go_wp2_with fail
 refine hrun.mono ?_;clear hrun;rintro e w1 ⟨rfl,c0,z0,hr⟩;have q0:∀x:Value,(w1.setCell ⟨w.heap.size+1,0,none⟩ x).cell? ⟨w.heap.size+1,0,none⟩=some x:=fun x=>World.cell?_setCell_same _ _ _ c0
 have HR:Hid (R0 w1):=hr;clear hr;go_wp2;refine leaves_cons (f:=80) (args:= #[.pointer (some ⟨w.heap.size+1,0,none⟩),.pointer (some ⟨w.heap.size,0,none⟩)]) (by simp) (by simp [go_sem]) ?_;refine (KV _ _ _).mono ?_;rintro e u' w'' ⟨rfl,rfl,rfl⟩;simp [Leaves,settle,results,Tryz.results51,go_sem,q0];exact ⟨w1,HR.out,rfl⟩
end Go.Proofs.YtaijfhadecennabGreat.Oct.Sx
namespace Go.Proofs.YtaijfhadecennabGreat.Oct.Sx
open Go.RowKit
attribute [local go_sem ↓] kA
structure FmC (w0 w:World) (F0:Nat->Prop) (s d p sp gp cP:Nat) (lab:Nat->Nat) (X:St) (pz:List Int):Prop where
 sto:StoC w s d p sp none 0 lab X
 lb:LbC w0 w F0 lab
 pg:RowL w (some ⟨gp,0,none⟩) pz.length cP pz lab 3
section
variable {w0 w w':World} {F0:Nat->Prop} {s d p sp gp cP:Nat} {lab lab':Nat->Nat} {X:St} {pz:List Int}
theorem FmC.keep (h:FmC w0 w F0 s d p sp gp cP lab X pz) {i:Nat} (h4:4<=i) (h9:i<=9) (t:Trn lab i w w') (g:Agr w.heap.size lab lab'):FmC w0 w' F0 s d p sp gp cP lab' X pz:=
 ⟨h.sto.keepL h4 t g,h.lb.turn t h9 g,h.pg.keep t (by omega) g⟩
theorem StoC.space' {aC:Option Addr} {cC:Nat} (h:StoC w s d p sp aC cC lab X) {F F':Nat->Prop} {P':List Int} (hF:∀k,F k->lab k=2) (hl:∀k,F k->k<w.heap.size) (hp:Sps.Spa w' sp F' P') (st:Step F F' w w'):StoC w' s d p sp aC cC (relab lab w.heap.size 2) {X with P:=P'}:=by
 obtain ⟨F2,q1,q2⟩:=h.pool;have l2:=q1.lt;have t:=Trn.of st hF;have kp:∀k,k<w.heap.size->lab k≠2->w'.heap[k]?=w.heap[k]?:=fun k hk hl=>t.block hk hl
 have hlt:=h.lt;have hcl:∀k,obl aC k->k<w.heap.size:=fun k hk=>(World.ownsRow.lt h.ch k (zC hk)).2
 exact ⟨(kp s hlt (by rw [h.l0];decide)).trans h.cells,by rw [yW hlt];exact h.l0,⟨F2,q1.keep t.size (fun k hk=>kp k (l2 k hk) (by rw [q2 k hk];decide)),fun k hk=>by rw [yW (l2 k hk)];exact q2 k hk⟩,⟨F',hp,Trn.foot st hF hl⟩,
  yN h.ch (fun k hk=>kp k (hcl k (yX hk)) (by rw [h.lc k (yX hk)];decide)),fun k hk=>by rw [yW (hcl k hk)];exact h.lc k hk⟩
theorem FmC.space (h:FmC w0 w F0 s d p sp gp cP lab X pz) {F F':Nat->Prop} {P':List Int} (hF:∀k,F k->lab k=2) (hl:∀k,F k->k<w.heap.size) (hp:Sps.Spa w' sp F' P') (st:Step F F' w w'):FmC w0 w' F0 s d p sp gp cP (relab lab w.heap.size 2) {X with P:=P'} pz:=by
 have t:=Trn.of st hF;exact ⟨h.sto.space' hF hl hp st,h.lb.turn t (by decide) (Agr.relab _ 2 _),h.pg.keep t (by decide) (Agr.relab _ 2 _)⟩
theorem StoC.spaceG {aC:Option Addr} {cC:Nat} (h:StoC w s d p sp aC cC lab X) {F F':Nat->Prop} {P':List Int} (hF:∀k,F k->lab k=2) (hp:Sps.Spa w' sp F' P') (st:Step F F' w w') {g:Nat} (hn:¬F' g):StoC w' s d p sp aC cC (rel2 lab w.heap.size g 3 2) {X with P:=P'}:=by
 obtain ⟨F2,q1,q2⟩:=h.pool;have l2:=q1.lt;have t:=Trn.of st hF;have kp:∀k,k<w.heap.size->lab k≠2->w'.heap[k]?=w.heap[k]?:=fun k hk hl=>t.block hk hl
 have hlt:=h.lt;have ag:=Agr.rel2 w.heap.size g 3 2 lab;have hcl:∀k,obl aC k->k<w.heap.size:=fun k hk=>(World.ownsRow.lt h.ch k (zC hk)).2
 exact ⟨(kp s hlt (by rw [h.l0];decide)).trans h.cells,by rw [ag _ hlt];exact h.l0,⟨F2,q1.keep t.size (fun k hk=>kp k (l2 k hk) (by rw [q2 k hk];decide)),fun k hk=>by rw [ag _ (l2 k hk)];exact q2 k hk⟩,⟨F',hp,fun k hk=>by
  unfold rel2;by_cases hlt:k<w.heap.size
  ·rw [if_pos hlt];rcases st.2 k hk with e|e
   ·exact hF k e
   ·omega
  ·rw [if_neg hlt,if_neg (fun e=>hn (by rw [<-e];exact hk))]⟩,
  yN h.ch (fun k hk=>kp k (hcl k (yX hk)) (by rw [h.lc k (yX hk)];decide)),fun k hk=>by rw [ag _ (hcl k hk)];exact h.lc k hk⟩
theorem FmC.fin (h:FmC w0 w F0 s d p sp gp cP lab X pz) (hc:Ch w.heap.size (fun k=>k=s) w w') {S':Sp} {pl' g':Int} (hb:w'.heap[s]?=some (.cells (stC d p sp S' pl' (.slice (some ⟨gp,0,none⟩) pz.length cP) g') 91 (0,0))):
  StoC w' s d p sp (some ⟨gp,0,none⟩) cP lab {X with S:=S',pl:=pl',C:=pz,g:=g'}/\LbC w0 w' F0 lab:=by
 have t:Trn lab 0 w w':=Trn.ch hc (fun k hk=>by rw [hk];exact h.sto.l0);have g:=fun (k:Nat) (_:k<w.heap.size)=>(rfl:lab k=lab k)
 obtain ⟨F1,p1,p2⟩:=h.sto.pool;obtain ⟨F2,q1,q2⟩:=h.sto.space;have l1:=p1.lt;have l2:=zM q1;have hp:=h.pg.keep t (by decide) g;exact ⟨⟨hb,h.sto.l0,⟨F1,p1.keep t.size (fun k hk=>t.block (l1 k hk) (by rw [p2 k hk];decide)),p2⟩,⟨F2,yZ q1 t.size (fun k hk=>t.block (l2 k hk) (by rw [q2 k hk];decide)),q2⟩,hp.1,hp.2⟩,h.lb.turn t (by decide) g⟩
def FmI (w0 w1 wr:World) (F0:Nat->Prop) (s d p sp gp cP B N:Nat) (D0:Dv) (pz bs:List Int) (P:List Int) (S:Sp) (k:Nat) (D:Dv):Prop:=
 FmD D0 pz (ctL bs pz) k D/\∃lab,StoC wr s d p sp (some ⟨gp,0,none⟩) cP lab ⟨D,N,[],P,S,0,pz,1⟩/\LbC w0 wr F0 lab/\Kp9 B w1 wr lab
theorem stC_put (d p sp:Nat) (S0 S:Sp) (pl:Int) (vC:Value) (g:Int):(((((((((stC d p sp S0 pl vC g).setIfInBounds 3 (.int .i64 S.g)).setIfInBounds (3+1) (.int .i64 S.p)).setIfInBounds (3+2) (.int .i64 S.r)).setIfInBounds (3+3) (.int .i64 S.h)).setIfInBounds (3+4) (.int .i64 S.b)).setIfInBounds (3+5) (.int .i64 S.l)).setIfInBounds (3+6) (.int .i64 S.s)).setIfInBounds (3+7) (.int .i64 S.f))=stC d p sp S pl vC g:=by
 simp [stC]
theorem stC_end (d p sp:Nat) (S:Sp) (pl:Int) (vC vC':Value) (g g':Int):((stC d p sp S pl vC g).setIfInBounds 12 vC').setIfInBounds 13 (.int .i64 g')=stC d p sp S pl vC' g':=by
 simp [stC]
def FmE (w0:World) (F0:Nat->Prop) (s d p sp N n:Nat) (D0:Dv) (e:Ending) (w':World):Prop:=
 e=.returned (.tuple #[])/\∃D gp cP lab,FmD D0 (tkG (ned ((n+7)/8)) (newS n)) (ctL (bitL (trS 1 0 (tkS (ned ((n+7)/8)) (newS n)))) (tkG (ned ((n+7)/8)) (newS n))) (ned ((n+7)/8)) D/\
  StoC w' s d p sp (some ⟨gp,0,none⟩) cP lab ⟨syncD (writeD (writeD D 1 (List.replicate 256 0)) 0 (enZ (sup 1 n 0 (hd0 (tkG (ned ((n+7)/8)) (newS n)))))),N,[],trS 1 0 (tkS (ned ((n+7)/8)) (newS n)),sup 1 n 0 (hd0 (tkG (ned ((n+7)/8)) (newS n))),0,tkG (ned ((n+7)/8)) (newS n),1⟩/\LbC w0 w' F0 lab
set_option maxRecDepth 20000 in
theorem format_any {n N:Nat} {D0:Dv} (h:StoC w s d p sp none 0 lab ⟨D0,N,[],newS n,sp0,0,[],0⟩) (hlb:LbC w0 w F0 lab) (hn:D0.n=n) (h8:8<=n) (h4:n<=4096) (hw:Well D0) (hok:D0.ok) (hops:D0.ops+5000<=1000000000) (hsi:D0.since.length+5000<=1000000):
  Calls prog 78 #[.pointer (some ⟨s,0,none⟩)] w (FmE w0 F0 s d p sp N n D0):=by
 obtain ⟨m,hm⟩:∃m,ned ((n+7)/8)=m:=⟨_,rfl⟩;have hm3:1<=m/\m<=3:=by rw [<-hm];unfold ned;omega
 have hmc:m<=(newS n).count 0:=by rw [<-hm];exact QT h8 h4
 have hnd:=fun wx=>Chs.Need_v (((n+7)/8:Nat):Int) wx (by omega) (by omega)
 rw [show nedI (((n+7)/8:Nat):Int)=(m:Int) by rw [XP,hm]] at hnd;obtain ⟨pz,hpz⟩:∃pz,tkG m (newS n)=pz:=⟨_,rfl⟩;obtain ⟨P2,hP2⟩:∃P2,trS 1 0 (tkS m (newS n))=P2:=⟨_,rfl⟩;have hpgs:=(QU h8 h4).pg hmc;rw [hpz] at hpgs;have hgl:pz.length=m:=by rw [<-hpz];exact yU m _
 have HK:Hid (D0.n=n/\8<=n/\n<=4096/\Well D0/\D0.ok/\D0.ops+5000<=1000000000/\D0.since.length+5000<=1000000/\ned ((n+7)/8)=m/\(1<=m/\m<=3)/\m<=(newS n).count 0/\tkG m (newS n)=pz/\trS 1 0 (tkS m (newS n))=P2):=⟨hn,h8,h4,hw,hok,hops,hsi,hm,hm3,hmc,hpz,hP2⟩;have HPZ:Hid (CtOk pz/\(∀z∈pz,z<(n:Int))/\pz.length=m):=⟨hpgs.1,hpgs.2.1,hgl⟩;have s2:=h.at.2.2.1;obtain ⟨F2,hp2,hF2⟩:=h.space;have hbt:=Sps.bits_any (w:=w.drew) (yZ hp2 (jB _) (fun _ _=>rfl));rw [JF] at hbt;have H0:Hid (StoC w s d p sp none 0 lab ⟨D0,N,[],newS n,sp0,0,[],0⟩/\LbC w0 w F0 lab):=⟨h,hlb⟩;clear h hlb hn h8 h4 hw hok hops hsi hm hmc hp2 hF2 hpz hP2 hpgs hgl;go_enter func78,ntmps78
 go_wp2_with fail
 go_region_held3 (fun w'=>w'.cell? ⟨s,2,none⟩=some (.pointer (some ⟨sp,0,none⟩))) (first|go_keep|assumption) (first
  |(go_at_call 125;refine hbt.mono ?_;rintro e w1 ⟨g1,c1,rfl,-,k1'⟩
    have k1:Below w.heap.size w w1:=⟨k1'.os,k1'.tape,k1'.output,k1'.size,k1'.block⟩;have H1:Hid (∃lab1,StoC w1 s d p sp none 0 lab1 ⟨D0,N,[],newS n,sp0,0,[],0⟩/\LbC w0 w1 F0 lab1):=⟨relab lab w.heap.size 9,H0.out.1.keepL (i:=9) (by decide) (Trn.below k1) (Agr.relab _ 9 _),H0.out.2.turn (j:=9) (Trn.below k1) (by decide) (Agr.relab _ 9 _)⟩;obtain ⟨lab1,hs1,hl1⟩:=H1.out;have x2:=hs1.at.2.2.1;obtain ⟨F3,hp3,hF3⟩:=hs1.space;have htk:=take_any hp3 m (by omega);have HS1:Hid (StoC w1 s d p sp none 0 lab1 ⟨D0,N,[],newS n,sp0,0,[],0⟩/\LbC w0 w1 F0 lab1/\(∀k,F3 k->lab1 k=2)):=⟨hs1,hl1,hF3⟩;clear hbt k1' k1 H1 hs1 hl1 hp3 hF3 H0)
  |(go_at_call 124;refine (hnd _).mono ?_;rintro e w' ⟨rfl,rfl⟩;clear hnd)
  |(go_at_call 123;refine htk.mono ?_;rintro e w2 ⟨-,hd⟩
    have hd2:=hd.resolve_right (fun h=>h.1 HK.out.2.2.2.2.2.2.2.2.2.1);obtain ⟨_,aP,cP,rfl,ho,F4,h3,st3,hn3⟩:=hd2;obtain ⟨gp,rfl⟩:=QR ho (by rw [yU];omega);have hgp:=(World.ownsRow.lt ho gp rfl).1
    have H2:Hid (∃lab2,FmC w0 w2 F0 s d p sp gp cP lab2 ⟨D0,N,[],tkS m (newS n),sp0,0,[],0⟩ pz):=by
     obtain ⟨hs1,hl1,hF3⟩:=HS1.out;have hs2:=hs1.spaceG hF3 h3 st3 (hn3 gp ⟨_,rfl,rfl⟩);refine ⟨_,hs2,hl1.turn (Trn.of st3 hF3) (by decide) (Agr.rel2 _ _ _ _ _),?_,?_⟩
     ·rw [HPZ.out.2.2,<-HK.out.2.2.2.2.2.2.2.2.2.2.1];exact yS ho (fun _ _=>jW _)
     ·rintro k ⟨x,e,hx⟩;cases e;subst hx;unfold rel2;rw [if_neg (Nat.not_lt.2 hgp),if_pos rfl]
    have x2':w2.cell? ⟨s,2,none⟩=some (.pointer (some ⟨sp,0,none⟩)):=by
     obtain ⟨lab2,h2⟩:=H2.out;exact h2.sto.at.2.2.1
    clear htk hd ho h3 st3 hn3 hgp HS1))
 have hP2l:P2.length=n:=by rw [<-HK.out.2.2.2.2.2.2.2.2.2.2.2];simp [trS,zU,JF]
 obtain ⟨bs,hbs⟩:∃bs,bitL P2=bs:=⟨_,rfl⟩;obtain ⟨nb,hnb⟩:∃nb,(n+7)/8=nb:=⟨_,rfl⟩;have hbl:bs.length=nb:=by rw [<-hbs,<-hnb,<-hP2l];unfold bitL;exact yT _ _
 have hbb:Bys bs:=by rw [<-hbs];unfold bitL;exact zP _ _
 have hnb4:nb<=1000:=by have:=HK.out.2.2.1;omega
 have hE0:ctE bs pz=0:=ctE_ok (by rw [HPZ.out.2.2,hbl,<-hnb];exact HK.out.2.2.2.2.2.2.2.1.symm) HPZ.out.1 (by omega);have HB:Hid (bitL P2=bs/\bs.length=nb/\Bys bs/\P2.length=n/\(n+7)/8=nb/\nb<=1000/\ctE bs pz=0):=⟨hbs,hbl,hbb,hP2l,hnb,hnb4,hE0⟩;clear hbs hnb hbl hbb hE0 hP2l;obtain ⟨lab2,hf2⟩:=H2.out;obtain ⟨F5,hp5,hF5⟩:=hf2.sto.space;have hcm:=Sps.commit_any hp5;have HF2:Hid (FmC w0 w2 F0 s d p sp gp cP lab2 ⟨D0,N,[],tkS m (newS n),sp0,0,[],0⟩ pz/\(∀k,F5 k->lab2 k=2)/\∀k,F5 k->k<w2.heap.size):=⟨hf2,hF5,zM hp5⟩;clear hf2 hp5 hF5 H2 s2
 go_wp2_with (first
  |(go_at_call 88;refine (check_ok _).mono ?_;rintro e w' ⟨rfl,rfl⟩)
  |(go_at_call 89;refine hcm.mono ?_;rintro e w3 ⟨rfl,F6,h6,st6⟩
    have H3:Hid (∃lab3,FmC w0 w3 F0 s d p sp gp cP lab3 ⟨D0,N,[],P2,sp0,0,[],0⟩ pz):=by
     have h:=HF2.out.1.space HF2.out.2.1 HF2.out.2.2 h6 st6;rw [HK.out.2.2.2.2.2.2.2.2.2.2.2] at h;exact ⟨_,h⟩
    obtain ⟨lab3,hf3⟩:=H3.out;have x3:=hf3.sto.at.2.2.1;obtain ⟨F7,hp7,hF7⟩:=hf3.sto.space;have hb3:=Sps.bits_any hp7;rw [HB.out.2.2.2.1,HB.out.2.2.2.2.1,HB.out.1] at hb3;have HF3:Hid (FmC w0 w3 F0 s d p sp gp cP lab3 ⟨D0,N,[],P2,sp0,0,[],0⟩ pz):=hf3;clear hcm h6 st6 hf3 hp7 hF7 H3 HF2 x2')
  |(go_at_call 125;refine hb3.mono ?_;rintro e w4 ⟨g4,c4,rfl,ho4,k4⟩
    have H4:Hid (∃lab4,FmC w0 w4 F0 s d p sp gp cP lab4 ⟨D0,N,[],P2,sp0,0,[],0⟩ pz):=⟨_,HF3.out.keep (i:=9) (by decide) (by decide) (Trn.below k4) (Agr.relab _ 9 _)⟩
    have hct:Calls prog 126 #[.slice (some ⟨g4,0,none⟩) nb c4,.slice (some ⟨gp,0,none⟩) m cP] w4 (CtR w4 bs pz):=by
     obtain ⟨lab4,hf4⟩:=H4.out;obtain ⟨a',c',e,hr⟩:=hf4.pg.1.row;simp only [Value.slice.injEq,true_and] at e;obtain ⟨rfl,rfl⟩:=e;have h:=Chs.Cut_v (some ⟨g4,0,none⟩) c4 bs (some ⟨gp,0,none⟩) cP pz w4 (ho4.row' HB.out.2.2.1).2 hr (by rw [HB.out.2.1];omega);rw [HB.out.2.1,HPZ.out.2.2] at h;exact h
    clear hb3 ho4 k4 HF3 x3)
  |(go_at_call 126;refine hct.mono ?_;rintro e w5 ⟨v,rfl,k1,k2⟩
    rw [HB.out.2.2.2.2.2.2];unfold ctZ at k1;rw [if_pos HB.out.2.2.2.2.2.2] at k1;obtain ⟨va,vc,rfl,hvc,hvm⟩:=k1.slice;rw [QJ,HPZ.out.2.2] at hvc;unfold maxLen at hvm;have HS5:Hid (PgL w4.heap.size w5 (.slice va (ctL bs pz).length vc) (ctL bs pz)):=k1;rw [show (ctL bs pz).length=m from (QJ bs pz).trans HPZ.out.2.2]
    have H5:Hid (∃lab5,FmC w0 w5 F0 s d p sp gp cP lab5 ⟨D0,N,[],P2,sp0,0,[],0⟩ pz/\w4.heap.size<=w5.heap.size/\s<w4.heap.size/\∀j,w4.heap.size<=j->lab5 j=9):=by
     obtain ⟨lab4,hf4⟩:=H4.out;exact ⟨relab lab4 w4.heap.size 9,hf4.keep (i:=9) (by decide) (by decide) (Trn.below k2) (Agr.relab _ 9 _),k2.size,hf4.sto.lt,fun j hj=>zY hj⟩
    clear hct k1 k2 H4))
 obtain ⟨lab5,hf5,hsz5,hsl5,hl5⟩:=H5.out;have s0:=hf5.sto.at.1;obtain ⟨z0,hz0⟩:∃z,pz.getD 0 0=z:=⟨_,rfl⟩;have gc0:=RowL.cellI hf5.pg rfl 0 (by rw [HPZ.out.2.2];omega);rw [hz0] at gc0;obtain ⟨F8,hp8,_⟩:=hf5.sto.pool;have hpg5:=JP (w:=w5.drew) (Pool.keep hp8 (jB _) (fun _ _=>rfl));dsimp only at hpg5;rw [HK.out.1] at hpg5;obtain ⟨wS,hst,hcS,hchS,hszS⟩:=StS_at (w:=w5.drew) (o:=3) (sup 1 n 0 z0) hf5.sto.cells (by simp [stC]);rw [stC_put] at hcS
 have hgs:¬gp=s:=fun e=>by
  have h1:=hf5.pg.2 gp ⟨_,rfl,rfl⟩;have h2:=hf5.sto.l0;rw [e] at h1;omega
 have hgl:gp<w5.heap.size:=(World.ownsRow.lt hf5.pg.1 gp rfl).2;have y0:wS.cell? ⟨s,0,none⟩=some (.pointer (some ⟨d,0,none⟩)):=by rw [cell_of_row _ _ _ _ _ (0,0) hcS];rfl
 have yg:wS.cell? ⟨gp,0,none⟩=some (.int .i64 z0):=(hchS.cell (p:=⟨gp,0,none⟩) hgl hgs).trans gc0;have y3:wS.cell? ⟨s,3,none⟩=some (.int .i64 1):=by rw [cell_of_row _ _ _ _ _ (0,0) hcS];rfl
 have y12:wS.cell? ⟨s,12,none⟩=some (.slice none 0 0):=by rw [cell_of_row _ _ _ _ _ (0,0) hcS];rfl
 have y13:wS.cell? ⟨s,13,none⟩=some (.int .i64 0):=by rw [cell_of_row _ _ _ _ _ (0,0) hcS];rfl
 have yf:∀i,wS.frozen? ⟨s,i,none⟩=false:=fun i=>by unfold World.frozen?;rw [hcS];simp
 have hm0:0<m:=by omega
 obtain ⟨w6,hw6⟩:∃w6,(wS.setCell ⟨s,12,none⟩ (.slice (some ⟨gp,0,none⟩) m cP)).setCell ⟨s,13,none⟩ (.int .i64 1)=w6:=⟨_,rfl⟩
 have H6:Hid (∃lab6,(StoC w6 s d p sp (some ⟨gp,0,none⟩) cP lab6 ⟨D0,N,[],P2,sup 1 n 0 z0,0,pz,1⟩/\LbC w0 w6 F0 lab6)/\(∀j,w4.heap.size<=j->j<w5.heap.size->w6.heap[j]?=w5.heap[j]?/\lab6 j=9)/\w4.heap.size<=w5.heap.size/\w6.heap.size=w5.heap.size/\∀j,w4.heap.size<=j->lab6 j=9):=by
  have hc6:Ch w5.heap.size (fun k=>k=s) w5 w6:=by
   rw [<-hw6];have h1:Ch w5.heap.size (fun k=>k=s) w5 wS:=⟨hchS.os,hchS.tape,hchS.output,hchS.size,hchS.block⟩;exact (h1.setCell (p:=⟨s,12,none⟩) (.inr rfl) _).setCell (p:=⟨s,13,none⟩) (.inr rfl) _
  have hb6:w6.heap[s]?=some (.cells (stC d p sp (sup 1 n 0 z0) 0 (.slice (some ⟨gp,0,none⟩) pz.length cP) 1) 91 (0,0)):=by
   rw [<-hw6,yK _ _ _ _ _ _ _ (yK _ _ _ _ _ _ _ hcS),stC_end,HPZ.out.2.2]
  exact ⟨lab5,hf5.fin hc6 hb6,fun j h1 h2=>⟨hc6.block j h2 (by omega),hl5 j h1⟩,hsz5,by rw [<-hw6,yL,yL];exact hszS,hl5⟩
 have hS:Hid (okS (sup 1 n 0 z0)=true):=by
  show okS (sup 1 n 0 z0)=true;have hmem:pz.getD 0 0∈pz:=by rw [jA,jC (by rw [HPZ.out.2.2];omega)];exact qA _
  have h1:=yR HPZ.out.1 _ hmem;have h2:=HPZ.out.2.1 _ hmem;have h3:=HK.out.2.1;have h4:=HK.out.2.2.1;exact fG (by omega) (by omega) (by omega) (by omega) (.inl rfl) (.inr ⟨by omega,by omega⟩)
 have HZ0:Hid (pz.getD 0 0=z0):=hz0;unfold spC sup at hst;dsimp only at hst;clear hcS hchS hszS hp8 H5 hf5 hsz5 hsl5 hl5 hz0;refine wp_region_held_drew (S:=fun w'=>w'.cell? ⟨s,0,none⟩=some (.pointer (some ⟨d,0,none⟩))/\w'.cell? ⟨gp,0,none⟩=some (.int .i64 z0)) (by kernel_rfl) ?_ (fun hHeld=>?_)
 ·(first|go_keep|exact ⟨by assumption,by assumption⟩)
 refine wpAnyH_take (i:=0) (v:=?_) rfl (by kernel_rfl) (by kernel_rfl) (by kernel_rfl) (fun _ _ _ h=>h) (Or.inl ⟨by rfl,?_⟩) (by assumption) ?_;rotate_left
 ·intro w hSw;(try dsimp only at hSw);go_simp;try with_reducible rfl
 simp only [jI,jE,Act.put,jD,jK,jH];refine wpAnyH_take (i:=1) (v:=?_) rfl (by kernel_rfl) (by kernel_rfl) (by kernel_rfl) (fun _ _ _ h=>h) (Or.inl ⟨by rfl,?_⟩) (by assumption) ?_;rotate_left
 ·intro w hSw;(try dsimp only at hSw);go_simp;try with_reducible rfl
 simp only [jI,jG,jE,Act.put,jD,jK,jH];refine wpAnyH_take (i:=2) (v:=?_) rfl (by kernel_rfl) (by kernel_rfl) (by kernel_rfl) (fun _ _ _ h=>h) (Or.inl ⟨by rfl,?_⟩) (by assumption) ?_;rotate_left
 ·intro w hSw;(try dsimp only at hSw);go_simp;try with_reducible rfl
 simp only [jI,jG,jE,Act.put,jD,jK,jH];refine wpAnyH_take (i:=3) (v:=?_) rfl (by kernel_rfl) (by kernel_rfl) (by kernel_rfl) (fun _ _ _ h=>h) (Or.inl ⟨by rfl,?_⟩) (by assumption) ?_;rotate_left
 ·intro w hSw;(try dsimp only at hSw);go_simp;try with_reducible rfl
 simp only [jI,jG,jE,Act.put,jD,jK,jH];refine wpAnyH_take (i:=4) (v:=?_) rfl (by kernel_rfl) (by kernel_rfl) (by kernel_rfl) (fun _ _ _ h=>h) (Or.inl ⟨by rfl,?_⟩) (by assumption) ?_;rotate_left
 ·intro w hSw;(try dsimp only at hSw);go_simp;try with_reducible rfl
 simp only [jI,jG,jE,Act.put,jD,jK,jH];refine wpAnyH_take (i:=6) (v:=?_) rfl (by kernel_rfl) (by kernel_rfl) (by kernel_rfl) (fun _ _ _ h=>h) (Or.inl ⟨by rfl,?_⟩) (by assumption) ?_;rotate_left
 ·intro w hSw;(try dsimp only at hSw);go_simp;try with_reducible rfl
 simp only [jI,jG,jE,Act.put,jD,jK,jH];refine wpAnyH_take (i:=7) (v:=?_) rfl (by kernel_rfl) (by kernel_rfl) (by kernel_rfl) (fun _ _ _ h=>h) (Or.inl ⟨by rfl,?_⟩) (by assumption) ?_;rotate_left
 ·intro w hSw;(try dsimp only at hSw);go_simp;try with_reducible rfl
 simp only [jI,jG,jE,Act.put,jD,jK,jH];refine wpAnyH_take (i:=8) (v:=?_) rfl (by kernel_rfl) (by kernel_rfl) (by kernel_rfl) (fun _ _ _ h=>h) (Or.inl ⟨by rfl,?_⟩) (by assumption) ?_;rotate_left
 ·intro w hSw;(try dsimp only at hSw);go_simp;try with_reducible rfl
 simp only [jI,jG,jE,Act.put,jD,jK,jH];refine wpAnyH_ready (rs:=[5]) (by kernel_rfl) (by simp) ?_;refine AllReadyH.cons rfl (fun K hK=>?_) AllReadyH.nil;go_simp
 (go_at_call 39;refine hpg5.mono ?_;rintro e w' ⟨rfl,rfl⟩)
 go_wp2_with fail
 refine hK.out _ _ ?_ (fun hHeld2=>?_)
 ·(first|go_keep|exact ⟨by assumption,by assumption⟩)
 clear hK K hHeld;have hHeld:=hHeld2;clear hHeld2;refine wpAnyH_take (i:=9) (v:=?_) rfl (by kernel_rfl) (by kernel_rfl) (by kernel_rfl) (fun _ _ _ h=>h) (Or.inl ⟨by rfl,?_⟩) (by assumption) ?_;rotate_left
 ·intro w hSw;(try dsimp only at hSw);go_simp;try with_reducible rfl
 simp only [jI,jG,jE,Act.put,jD,jK,jH];refine wpAnyH_take (i:=10) (v:=?_) rfl (by kernel_rfl) (by kernel_rfl) (by kernel_rfl) (fun _ _ _ h=>h) (Or.inl ⟨by rfl,?_⟩) (by assumption) ?_;rotate_left
 ·intro w hSw;(try dsimp only at hSw);go_simp;try with_reducible rfl
 simp only [jI,jG,jE,Act.put,jD,jK,jH];refine wpAnyH_take (i:=11) (v:=?_) rfl (by kernel_rfl) (by kernel_rfl) (by kernel_rfl) (fun _ _ _ h=>h) (Or.inl ⟨by rfl,?_⟩) (by assumption) ?_;rotate_left
 ·intro w hSw;(try dsimp only at hSw);go_simp;try with_reducible rfl
 simp only [jI,jG,jE,Act.put,jD,jK,jH];refine wpAnyH_ready (rs:=[12]) (by kernel_rfl) (by simp) ?_;refine AllReadyH.cons rfl (fun K hK=>?_) AllReadyH.nil;go_simp
 skip
 go_wp2_with fail
 refine hK.out _ _ ?_ (fun hHeld2=>?_)
 ·(first|go_keep|exact ⟨by assumption,by assumption⟩)
 clear hK K hHeld;have hHeld:=hHeld2;clear hHeld2;refine wpAnyH_done (by kernel_rfl) ?_ _;clear hHeld hpg5 hst s0 gc0;go_upto_region 7 with fail
 obtain ⟨S,hSe⟩:∃S,sup 1 n 0 z0=S:=⟨_,rfl⟩;rw [hSe] at H6 hS;obtain ⟨lab6,⟨hs6,hl6⟩,hk6,hz6,hz6',hn6⟩:=H6.out;have x3:w6.cell? ⟨s,3,none⟩=some (.int .i64 S.g):=by rw [hs6.cell];rfl
 have x4:w6.cell? ⟨s,4,none⟩=some (.int .i64 S.p):=by rw [hs6.cell];rfl
 have x5:w6.cell? ⟨s,5,none⟩=some (.int .i64 S.r):=by rw [hs6.cell];rfl
 have x6:w6.cell? ⟨s,6,none⟩=some (.int .i64 S.h):=by rw [hs6.cell];rfl
 have x7:w6.cell? ⟨s,7,none⟩=some (.int .i64 S.b):=by rw [hs6.cell];rfl
 have x8:w6.cell? ⟨s,8,none⟩=some (.int .i64 S.l):=by rw [hs6.cell];rfl
 have x9:w6.cell? ⟨s,9,none⟩=some (.int .i64 S.s):=by rw [hs6.cell];rfl
 have x10:w6.cell? ⟨s,10,none⟩=some (.int .i64 S.f):=by rw [hs6.cell];rfl
 have hE:enE S=0:=by unfold enE;rw [if_pos hS.out]
 have hZl:(enZ S).length=256:=by rw [ZU,if_pos hS.out]
 have hen:=GR S w6 0 hE (enZ S) rfl 256 hZl;have HL6:Hid ((StoC w6 s d p sp (some ⟨gp,0,none⟩) cP lab6 ⟨D0,N,[],P2,S,0,pz,1⟩/\LbC w0 w6 F0 lab6)/\(∀j,w4.heap.size<=j->j<w5.heap.size->w6.heap[j]?=w5.heap[j]?/\lab6 j=9)/\w4.heap.size<=w5.heap.size/\w6.heap.size=w5.heap.size/\∀j,w4.heap.size<=j->lab6 j=9):=⟨⟨hs6,hl6⟩,hk6,hz6,hz6',hn6⟩;have HSE:Hid (sup 1 n 0 z0=S/\(enZ S).length=256):=⟨hSe,hZl⟩;clear hw6 hs6 hl6 hk6 hz6 hz6' hn6 H6 hE hZl hSe y0 yg y3 y12 y13 yf
 go_wp2_with (first
  |(go_at_call 127;refine hen.mono ?_;rintro e w7 ⟨gz,cz,rfl,ho7,hb7⟩
    have H7:Hid (∃lab7,(StoC w7 s d p sp (some ⟨gp,0,none⟩) cP lab7 ⟨D0,N,[],P2,S,0,pz,1⟩/\LbC w0 w7 F0 lab7)/\(∀j,w4.heap.size<=j->lab7 j=9)/\PgL w4.heap.size w7 (.slice va m vc) (ctL bs pz)/\Own w4.heap.size w7 (.slice gz 256 cz) (enZ S)):=by
     obtain ⟨⟨h1,h2⟩,h3,h4,h5,h6⟩:=HL6.out;refine ⟨relab lab6 w6.heap.size 9,⟨h1.keepL (i:=9) (by decide) (Trn.below hb7) (Agr.relab _ 9 _),h2.turn (j:=9) (Trn.below hb7) (by decide) (Agr.relab _ 9 _)⟩,fun j hj=>?_,?_,yS ho7 (fun k hk=>by have:=World.ownsRow.lt ho7 k hk;omega)⟩
     ·by_cases hj2:j<w6.heap.size
      ·rw [yW hj2];exact h6 j hj
      ·exact zY (by omega)
     ·have h7:=HS5.out;rw [show (ctL bs pz).length=m from (QJ bs pz).trans HPZ.out.2.2] at h7;exact PgL.keepB h7 (fun j h8 h9=>(hb7.block j (by omega)).trans (h3 j h8 h9).1)
    clear hen x3 x4 x5 x6 x7 x8 x9 x10 ho7 hb7 HL6 HS5)
  |(go_at_call 88;refine (check_ok _).mono ?_;rintro e w' ⟨rfl,rfl⟩))
 go_loopg [78] m (fun gh i wr=>∃(k:Nat) (D':Dv),k<=m/\gh=m-k/\i=.int .i64 (k:Int)/\Hid (FmI w0 w7 wr F0 s d p sp gp cP w4.heap.size N D0 pz bs P2 S k D'))
 case atStart=>
  obtain ⟨lab7,⟨h1,h2⟩,h3,_⟩:=H7.out;exact ⟨0,D0,jW _,rfl,rfl,⟨HK.out.2.2.2.2.1,HK.out.2.2.2.1,rfl,jB _,jB _,fun j hj=>absurd hj (Nat.not_lt_zero _)⟩,lab7,h1,h2,fun j hj _=>⟨rfl,h3 j hj⟩⟩
 case round=>
  obtain ⟨k,D',hk,hgk,rfl,HI⟩:=hrel;have HGK:Hid (gk=m-k):=hgk;clear hgk;by_cases hlt:k<m
  ·obtain ⟨hfd,labr,hs,hl,hk9⟩:=HI.out;obtain ⟨lab7,_,_,hpg7,_⟩:=H7.out;have s0:=hs.at.1;have hkp:k<pz.length:=by rw [HPZ.out.2.2];exact hlt
   have gck:=RowL.cellI (lab:=labr) (i:=3) ⟨hs.ch,hs.lc⟩ rfl k hkp;obtain ⟨qs,vcap,gs,gc,hv,hql,hsc0,hso0⟩:=PgL.atB hpg7 k (by rw [QJ];exact hkp);have hgs7:=World.ownsRow.lt hso0 gs rfl;have hsc:=(World.cell?_of_block (w:=w7) (a:=⟨qs,k,none⟩) (hk9 qs hql.1 hql.2).1).trans hsc0;have hso:Own w4.heap.size wr (.slice (some ⟨gs,0,none⟩) ((ctL bs pz).getD k []).length gc) ((ctL bs pz).getD k []):=yN hso0 (w':=wr) (fun j hj=>by have:=World.ownsRow.lt hso0 j hj;exact (hk9 j this.1 this.2).1);have hz256:((ctL bs pz).getD k []).length=256:=by rw [ctL_at _ _ _ hkp];exact ZV ..
   have hzB:Bys ((ctL bs pz).getD k []):=by rw [ctL_at _ _ _ hkp];exact ZF (FK HB.out.2.2.1 k)
   rw [hz256] at hsc;simp only [Value.slice.injEq] at hv;have hva:=hv.1;have hvcc:=hv.2.2;clear hv;subst hva;subst hvcc;have hrow:=(Own.row' hso hzB).2;have hz2:=HPZ.out.1 k hkp;obtain ⟨pg,hpg⟩:∃pg:Nat,pz.getD k 0=(pg:Int):=⟨(pz.getD k 0).toNat,(qD (by omega)).symm⟩;have hpt:(pz.getD k 0).toNat=pg:=by rw [hpg];rfl
   have hpgn:(pz.getD k 0)<(n:Int):=HPZ.out.2.1 _ (by rw [jA,jC hkp];exact qA _);obtain ⟨F9,hp9,hF9⟩:=hs.pool;have hstep:=hfd.step HPZ.out.1 hkp (by rw [HK.out.1];exact HPZ.out.2.1) hz256 hzB;rw [hpt] at hstep;rw [hpg] at gck;have hwr:=XI (w:=wr.drew) (Pool.keep hp9 (jB _) (fun _ _=>rfl)) (by have h1:=hfd.ops;have h2:=HK.out.2.2.2.2.2.1;show D'.ops<=_;omega) (by have h1:=hfd.since;have h2:=HK.out.2.2.2.2.2.2.1;show D'.since.length<=_;omega) pg (by have h1:=hfd.n;have h2:=HK.out.1;show pg<D'.n;omega) (some ⟨gs,0,none⟩) gc ((ctL bs pz).getD k []) hrow hz256;dsimp only at hwr;rw [hfd.well.says] at hwr;have HT:Hid (StoC wr s d p sp (some ⟨gp,0,none⟩) cP labr ⟨D',N,[],P2,S,0,pz,1⟩/\LbC w0 wr F0 labr/\Kp9 w4.heap.size w7 wr labr/\(∀k,F9 k->labr k=1)/\(∀k,F9 k->k<wr.heap.size)/\FmD D0 pz (ctL bs pz) (k+1) (writeD D' pg ((ctL bs pz).getD k []))):=⟨hs,hl,hk9,hF9,hp9.lt,hstep⟩;clear HI hfd hs hl hk9 hpg7 hsc0 hso0 hgs7 hso hz256 hzB hrow hz2 hpg hpt hpgn hp9 hF9 hstep hql;go_wp2_with fail
   go_region_held3 (fun w'=>w'.cell? ⟨s,0,none⟩=some (.pointer (some ⟨d,0,none⟩))/\w'.cell? ⟨gp,k,none⟩=some (.int .i64 (pg:Int))) (first|go_keep|exact ⟨by assumption,by assumption⟩) (first
    |(go_at_call 128;refine hwr.mono ?_;rintro e w8 ⟨rfl,F10,hp10,st10'⟩
      have st10:=st10'.undrew
      have HQ:Hid (FmI w0 w7 w8 F0 s d p sp gp cP w4.heap.size N D0 pz bs P2 S (k+1) (writeD D' pg ((ctL bs pz).getD k []))):=by
       obtain ⟨a1,a2,a3,a4,a5,a6⟩:=HT.out;have t:=Trn.of st10 a4;exact ⟨a6,_,a1.pool' a4 a5 hp10 st10,a2.turn t (by decide) (Agr.relab _ 1 _),a3.turn t (by decide) (Agr.relab _ 1 _)⟩
      have x0:w8.cell? ⟨s,0,none⟩=some (.pointer (some ⟨d,0,none⟩)):=by obtain ⟨_,l,hl,_⟩:=HQ.out;exact hl.at.1
      have xg:w8.cell? ⟨gp,k,none⟩=some (.int .i64 (pg:Int)):=by
       obtain ⟨a1,_,_,a4,_,_⟩:=HT.out;exact (World.cell?_of_block (w:=wr) (a:=⟨gp,k,none⟩) (st10.1.block gp (World.ownsRow.lt a1.ch gp rfl).2 (fun e=>by have h1:=a4 gp e;have h2:=a1.lc gp ⟨_,rfl,rfl⟩;omega))).trans gck
      clear hwr hp10 st10 st10' HT)
    |(go_at_call 88;refine (check_ok _).mono ?_;rintro e w' ⟨rfl,rfl⟩))
   clear s0 gck hsc;go_wp2_with fail
   go_roundg (m-(k+1))
   case rel=>exact ⟨k+1,_,by omega,rfl,by go_num,HQ.out⟩
   case measure=>have:=HGK.out;omega
  ·obtain rfl:k=m:=by omega
   obtain ⟨i0,hi0,hz0,hz1,hz2⟩:=info_parts info5;have hm256:256<=maxLen:=by unfold maxLen;omega
   obtain ⟨hfd,labr,hs,hl,hk9⟩:=HI.out;obtain ⟨lab7,_,_,_,hoz7⟩:=H7.out;have s0:=hs.at.1;have hoz:Own w4.heap.size wr (.slice gz 256 cz) (enZ S):=yN hoz7 (fun j hj=>by have:=World.ownsRow.lt hoz7 j hj;exact (hk9 j this.1 this.2).1);have HT:Hid (StoC wr s d p sp (some ⟨gp,0,none⟩) cP labr ⟨D',N,[],P2,S,0,pz,1⟩/\LbC w0 wr F0 labr/\Kp9 w4.heap.size w7 wr labr/\FmD D0 pz (ctL bs pz) k D'/\Own w4.heap.size wr (.slice gz 256 cz) (enZ S)):=⟨hs,hl,hk9,hfd,hoz⟩;obtain ⟨w8,hrun,how8,hgr8⟩:=run_make_full (P:=prog) (w:=wr.drew) wr.drew.heap.size 22 5 i0 (.int .u8 0) 1 underlying22 hi0 hz0 hz1 .i64 .i64 256 (by rw [hz2];omega) hm256 (jB _);rw [show ((256:Nat):Int)=256 from rfl] at hrun
   have hb8:Below wr.heap.size wr w8:=by
    have h:=(Below.refl wr.drew.heap.size wr.drew).grown hgr8 (jB _) (by simp);exact ⟨h.os,h.tape,h.output,h.size,h.block⟩
   have hz8:Own wr.heap.size w8 (.slice (some ⟨wr.heap.size,0,none⟩) 256 256) (List.replicate 256 0):=JG how8;have hs8:=hs.keepL (i:=9) (by decide) (Trn.below hb8) (Agr.relab _ 9 _);have hl8:=hl.turn (j:=9) (Trn.below hb8) (by decide) (Agr.relab _ 9 _);have x0:=hs8.at.1;obtain ⟨F9,hp9,hF9⟩:=hs8.pool;obtain ⟨no1,nn1⟩:D'.ops<=999999000/\D'.since.length<=999000:=by have h1:=hfd.ops;have h2:=hfd.since;have h3:=HK.out.2.2.2.2.2.1;have h4:=HK.out.2.2.2.2.2.2.1;omega
   have hn8:8<=D'.n:=hfd.ok.n8;have hwr:=XI hp9 (by show D'.ops<=_;omega) (by show D'.since.length<=_;omega) 1 (by show 1<D'.n;omega) (some ⟨wr.heap.size,0,none⟩) 256 (List.replicate 256 0) (hz8.row' (QK 256)).2 jJ;dsimp only at hwr;rw [hfd.well.says,show ((1:Nat):Int)=1 from rfl] at hwr
   have HT:Hid (StoC w8 s d p sp (some ⟨gp,0,none⟩) cP (relab labr wr.heap.size 9) ⟨D',N,[],P2,S,0,pz,1⟩/\LbC w0 w8 F0 (relab labr wr.heap.size 9)/\FmD D0 pz (ctL bs pz) k D'/\Own w4.heap.size w8 (.slice gz 256 cz) (enZ S)/\(∀k,F9 k->relab labr wr.heap.size 9 k=1)/\(∀k,F9 k->k<w8.heap.size)/\D'.ops<=999999000/\D'.since.length<=999000/\8<=D'.n/\∀j,(Value.slice gz 256 cz).ownBlock=some j->relab labr wr.heap.size 9 j=9):=
    ⟨hs8,hl8,hfd,yN hoz (fun j hj=>hb8.block j (World.ownsRow.lt hoz j hj).2),hF9,hp9.lt,no1,nn1,hn8,fun j hj=>by
     have h1:=World.ownsRow.lt hoz j hj;have h7:=World.ownsRow.lt hoz7 j hj;rw [yW h1.2];exact (hk9 j h7.1 h7.2).2⟩
   clear HI H7 hfd hs hl hk9 hoz7 hoz how8 hgr8 hb8 hz8 hs8 hl8 hp9 hF9 no1 nn1 hn8 hi0 hz0 hz1 hz2 hm256;have s0d:wr.drew.cell? ⟨s,0,none⟩=some (.pointer (some ⟨d,0,none⟩)):=s0;rw [show wr.drew.heap.size=wr.heap.size from rfl] at hrun;go_wp2_with fail
   go_region_held3 (fun w'=>w'.cell? ⟨s,0,none⟩=some (.pointer (some ⟨d,0,none⟩))) (first|go_keep|assumption) (first
    |(go_at_call 128;refine hwr.mono ?_;rintro e w9 ⟨rfl,F10,hp10,st10⟩
      have H9:Hid (∃lab9,StoC w9 s d p sp (some ⟨gp,0,none⟩) cP lab9 ⟨writeD D' 1 (List.replicate 256 0),N,[],P2,S,0,pz,1⟩/\LbC w0 w9 F0 lab9/\Own w4.heap.size w9 (.slice gz 256 cz) (enZ S)):=by
       obtain ⟨a1,a2,a3,a4,a5,a6,_,_,_,a10⟩:=HT.out;have t:=Trn.of st10 a5;refine ⟨_,a1.pool' a5 a6 hp10 st10,a2.turn t (by decide) (Agr.relab _ 1 _),yN a4 (fun j hj=>?_)⟩;have h1:=World.ownsRow.lt a4 j hj;have h2:=a10 j hj;exact t.block h1.2 (by omega)
      have y0:w9.cell? ⟨s,0,none⟩=some (.pointer (some ⟨d,0,none⟩)):=by obtain ⟨l,h1,_⟩:=H9.out;exact h1.at.1
      clear hwr hp10 st10)
    |(go_at_call 88;refine (check_ok _).mono ?_;rintro e w' ⟨rfl,rfl⟩))
   clear x0 s0 s0d hrun;obtain ⟨lab9,hs9,hl9,hoz9⟩:=H9.out
   obtain ⟨b1,b2,b3,b4⟩:FmD D0 pz (ctL bs pz) k D'/\D'.ops<=999999000/\D'.since.length<=999000/\8<=D'.n:=by
    obtain ⟨_,_,a3,_,_,_,a7,a8,a9,_⟩:=HT.out;exact ⟨a3,a7,a8,a9⟩
   obtain ⟨u1,u2,u3⟩:=b1.well.writeS 1 (List.replicate 256 0);have hwl:=b1.well.write 1 (List.replicate 256 0);obtain ⟨D1,hD1⟩:∃D1,writeD D' 1 (List.replicate 256 0)=D1:=⟨_,rfl⟩;rw [hD1] at hs9 u1 u2 u3 hwl H9;have hn1:D1.n=D'.n:=by rw [<-hD1,zH]
   have v0:=hs9.at.1;have v11:w9.cell? ⟨s,11,none⟩=some (.int .i64 0):=hs9.at.2.2.2.1;obtain ⟨F9b,hp9,hF9⟩:=hs9.pool;have hu1:D1.since.length<=999001:=by rw [u1,jO,List.length_singleton];omega
   have hwr:=XI (w:=w9.drew) (Pool.keep hp9 (jB _) (fun _ _=>rfl)) (by show D1.ops<=_;omega) (by show D1.since.length<=_;omega) 0 (by show 0<D1.n;omega) gz cz (enZ S) (hoz9.row' (YL S)).2 HSE.out.2;dsimp only at hwr;rw [hwl.says,show ((0:Nat):Int)=0 from rfl] at hwr;have HT2:Hid (StoC w9 s d p sp (some ⟨gp,0,none⟩) cP lab9 ⟨D1,N,[],P2,S,0,pz,1⟩/\LbC w0 w9 F0 lab9/\(∀k,F9b k->lab9 k=1)/\(∀k,F9b k->k<w9.heap.size)/\Well D1/\D1.ops<=999999001/\FmD D0 pz (ctL bs pz) k D'/\writeD D' 1 (List.replicate 256 0)=D1):=⟨hs9,hl9,hF9,hp9.lt,hwl,by omega,b1,hD1⟩;clear HT H9 hs9 hl9 hoz9 b1 b2 b3 b4 u1 u2 u3 hwl hn1 hp9 hF9 hu1 hD1 y0;go_wp2_with fail
   go_region_held3 (fun w'=>w'.cell? ⟨s,0,none⟩=some (.pointer (some ⟨d,0,none⟩))/\w'.cell? ⟨s,11,none⟩=some (.int .i64 0)) (first|go_keep|exact ⟨by assumption,by assumption⟩) (first
    |(go_at_call 128;refine hwr.mono ?_;rintro e w10 ⟨rfl,F10b,hp10,st10'⟩
      have st10:=st10'.undrew
      have H10:Hid (∃lab10,StoC w10 s d p sp (some ⟨gp,0,none⟩) cP lab10 ⟨writeD D1 0 (enZ S),N,[],P2,S,0,pz,1⟩/\LbC w0 w10 F0 lab10):=by
       obtain ⟨a1,a2,a3,a4,_⟩:=HT2.out;have t:=Trn.of st10 a3;exact ⟨_,a1.pool' a3 a4 hp10 st10,a2.turn t (by decide) (Agr.relab _ 1 _)⟩
      have z0':w10.cell? ⟨s,0,none⟩=some (.pointer (some ⟨d,0,none⟩)):=by obtain ⟨l,h1,_⟩:=H10.out;exact h1.at.1
      have z11':w10.cell? ⟨s,11,none⟩=some (.int .i64 0):=by obtain ⟨l,h1,_⟩:=H10.out;exact h1.at.2.2.2.1
      clear hwr hp10 st10 st10')
    |(go_at_call 88;refine (check_ok _).mono ?_;rintro e w' ⟨rfl,rfl⟩))
   clear v0 v11 z11';obtain ⟨lab10,hs10,hl10⟩:=H10.out;obtain ⟨F11,hp11,hF11⟩:=hs10.pool;have hwl:=HT2.out.2.2.2.2.1;have hsy:=KY hp11 (by have h1:=(hwl.writeS 0 (enZ S)).2.2;have h2:=HT2.out.2.2.2.2.2.1;show (writeD D1 0 (enZ S)).ops<=_;omega);dsimp only at hsy;rw [(hwl.write 0 (enZ S)).says] at hsy;have HT3:Hid (StoC w10 s d p sp (some ⟨gp,0,none⟩) cP lab10 ⟨writeD D1 0 (enZ S),N,[],P2,S,0,pz,1⟩/\LbC w0 w10 F0 lab10/\(∀k,F11 k->lab10 k=1)/\∀k,F11 k->k<w10.heap.size):=⟨hs10,hl10,hF11,hp11.lt⟩;clear H10 hs10 hl10 hp11 hF11 hwl
   go_wp2_with (first
    |(go_at_call 86;refine hsy.mono ?_;rintro e w11 ⟨rfl,F12,hp12,st12⟩
      have H12:Hid (∃lab12,StoC w11 s d p sp (some ⟨gp,0,none⟩) cP lab12 ⟨syncD (writeD D1 0 (enZ S)),N,[],P2,S,0,pz,1⟩/\LbC w0 w11 F0 lab12):=by
       obtain ⟨a1,a2,a3,a4⟩:=HT3.out;have t:=Trn.of st12 a3;exact ⟨_,a1.pool' a3 a4 hp12 st12,a2.turn t (by decide) (Agr.relab _ 1 _)⟩
      clear hsy hp12 st12)
    |(go_at_call 88;refine (check_ok _).mono ?_;rintro e w' ⟨rfl,rfl⟩))
   refine bodyPost_ret (results_none rfl _ _ _) rfl ?_;obtain ⟨lab12,q1,q2⟩:=H12.out;obtain ⟨_,_,_,_,_,_,r1,r2⟩:=HT2.out;obtain ⟨_,_,_,_,_,_,_,k8,_,_,k11,k12⟩:=HK.out;unfold FmE;rw [k8,k11,k12,HB.out.1,show hd0 pz=z0 from HZ0.out,HSE.out.1];exact ⟨rfl,D',gp,cP,lab12,r1,by rw [r2];exact q1,q2⟩
end
end Go.Proofs.YtaijfhadecennabGreat.Oct.Sx
