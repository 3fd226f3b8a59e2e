/- Part of a proof. -/
import Derived.Test.YtaijfhadecennaaGreatEmg
set_option maxHeartbeats 4000000
namespace Go.Proofs.YtaijfhadecennaaGreat.Oct.Sx
open Go.RowKit
structure Mid (D0:Dv) (L0:List Fr) (N:Nat) (S:Sp) (pl:Nat) (r:Rp) (T:List (Sp × Rp)) (pgs:List Int) (c:Nat) (D':Dv) (L':List Fr):Prop where
 jv:Jv D' S pl r T
 fi:FI D' N L'
 dp:∀k,DP L' k->(k:Int)∈pgs
 n:D'.n=D0.n
 mo:Mo D0 D'
 ops:D'.ops<=D0.ops+c/\D'.since.length<=D0.since.length+c
 tl:∀k b,k<D0.n->2<=k->¬(k:Int)∈pgs->Tl D0 L0 k b->Tl D' L' k b
section
variable {X:St} {pl a c m:Nat} {r:Rp} {T:List (Sp × Rp)} {zs bs:List Int} {D':Dv} {L':List Fr}
theorem puR_mid (h:In X.D X.N X.L X.P X.S pl X.C X.g r T) (hm:m<=X.P.count 0) (hp:PuR X (tkG m X.P) a zs bs (fun k=>(k:Int)∈tkG m X.P) D' L'):Mid X.D X.L X.N X.S pl r T (tkG m X.P) m D' L':=by
 obtain ⟨n,hn,ha⟩:=hp.acts;rw [zA] at hn;have ho:=ha.ops;refine ⟨ha.jv h.jv (fun k hk=>h.apart hm k hk),hp.fi,fun k hk=>?_,ha.n,ha.mo,by omega,fun k b hk _ hm ht=>hp.old k b hk hm ht⟩;rcases hp.dp k hk with e|e
 ·exact absurd e (h.nd k)
 ·exact e
theorem puB_mid (h:In X.D X.N X.L X.P X.S pl X.C X.g r T) (hm:m<=X.P.count 0) (hp:PuB X (tkG m X.P) (fun k=>(k:Int)∈tkG m X.P) D' L'):Mid X.D X.L X.N X.S pl r T (tkG m X.P) m D' L':=by
 obtain ⟨n,hn,ha⟩:=hp.acts;rw [zA] at hn;have ho:=ha.ops;refine ⟨ha.jv h.jv (fun k hk=>h.apart hm k hk),hp.fi,fun k hk=>?_,ha.n,ha.mo,by omega,fun k b hk _ hm ht=>hp.old k b hk hm ht⟩;rcases hp.dp k hk with e|e
 ·exact absurd e (h.nd k)
 ·exact e
end
section
variable {D0 D:Dv} {L0 L:List Fr} {N pl c:Nat} {S:Sp} {r:Rp} {T:List (Sp × Rp)} {pgs:List Int}
theorem Mid.flush (h:Mid D0 L0 N S pl r T pgs c D L) (hap:∀k:Nat,(k:Int)∈pgs->Apart r T k) {R:Int × Dv × List Fr} (hR:flS (pgsP L fitD) D L=R):
  Mid D0 L0 N S pl r T pgs (c+N) R.2.1 R.2.2/\(∀k b,k<D0.n->Tl D L k b->Tl R.2.1 R.2.2 k b)/\(R.1=0/\(∀k,¬DP R.2.2 k)\/(R.1=7/\Bad D0 R.2.1)):=by
 obtain ⟨h1,h2,h3,h4,h5⟩:=h.fi.flush hR;have ho:=h3.ops;have hn:=h.n;have hp:=h.ops;refine ⟨⟨h3.jv h.jv (fun k hk=>hap k (h.dp k hk)),h1,fun k hk=>h.dp k (h4 k hk),h3.n.trans hn,h.mo.trans h3.mo,by omega,fun k b hk h2' hm ht=>h2 k b (by omega) (h.tl k b hk h2' hm ht)⟩,fun k b hk ht=>h2 k b (by omega) ht,?_⟩;rcases h5 with h5|⟨e,h5⟩
 ·exact .inl h5
 ·exact .inr ⟨e,h.mo.bad h5⟩
theorem Mid.sync (h:Mid D0 L0 N S pl r T pgs c D L):Mid D0 L0 N S pl r T pgs (c+1) (syncD D) L:=by
 have ho:=sync_ops D;have hp:=h.ops;have hn:=h.n;refine ⟨h.jv.syncD,h.fi.sync,h.dp,(vF D).trans hn,h.mo.trans (gX D),by omega,fun k b hk h2 hm ht=>?_⟩;have:=h.tl k b hk h2 hm ht;exact ⟨this.1,fun hd=>by rw [VI];exact this.2 hd⟩
end
end Go.Proofs.YtaijfhadecennaaGreat.Oct.Sx
namespace Go.Proofs.YtaijfhadecennaaGreat.Oct.Sx
open Go.RowKit
structure Aft (D0:Dv) (L0:List Fr) (pgs:List Int) (c:Nat) (D':Dv) (L':List Fr):Prop where
 n:D'.n=D0.n
 mo:Mo D0 D'
 ops:D'.ops<=D0.ops+c/\D'.since.length<=D0.since.length+c
 tl:∀k b,k<D0.n->2<=k->¬(k:Int)∈pgs->Tl D0 L0 k b->Tl D' L' k b
section
variable {D0 D:Dv} {L0 L:List Fr} {N pl c:Nat} {S:Sp} {r:Rp} {T:List (Sp × Rp)} {pgs:List Int}
theorem Mid.aft (h:Mid D0 L0 N S pl r T pgs c D L):Aft D0 L0 pgs c D L:=⟨h.n,h.mo,h.ops,h.tl⟩
theorem Aft.sync (h:Aft D0 L0 pgs c D L):Aft D0 L0 pgs (c+1) (syncD D) L:=by
 have ho:=sync_ops D;have hp:=h.ops;refine ⟨(vF D).trans h.n,h.mo.trans (gX D),by omega,fun k b hk h2 hm ht=>?_⟩;have:=h.tl k b hk h2 hm ht;exact ⟨this.1,fun hd=>by rw [VI];exact this.2 hd⟩
theorem Aft.write (h:Aft D0 L0 pgs c D L) (fi:FI D N L) {x:Nat} (hx:x<2) (hn:2<=D.n) {b:List Int} (hb:b.length=256) (hy:Bys b):Aft D0 L0 pgs (c+1) (writeD D x b) (fgL L x):=by
 have ha:Acts (fun _=>True) 1 D (writeD D x b):=Acts.write trivial (by omega) hb hy;have ho:=ha.ops;have hp:=h.ops;have hN:=h.n;obtain ⟨f1,f2,f3,f4⟩:=fi.forget x rfl;have hpast:=f1.past (x:=x) (by omega) (fun g hg=>(f4 g hg).2) hb hy;exact ⟨ha.n.trans h.n,h.mo.trans ha.mo,by omega,fun k b' hk h2 hm ht=>hpast.2 k b' (by omega) (by omega) (f2 k b' (by omega) (h.tl k b' hk h2 hm ht))⟩
theorem tl_clean {k:Nat} {b:List Int} (h:Tl D L k b) (hd:∀k,¬DP L k):pageOf D.now k=b:=h.2 (fun f hf e=>by
 cases hdf:f.dirty with
 |false=>rfl
 |true=>exact absurd ⟨f,hf,e,hdf⟩ (hd k))
end
section
variable {X:St} {pl a m:Nat} {r:Rp} {T:List (Sp × Rp)} {zs:List Int}
theorem chains_sure {bs:List Int} {D1 D2:Dv} {L1 L2:List Fr} (hok:CtOk (tkG m X.P)) (hpn:∀z∈tkG m X.P,z<(X.D.n:Int)) (ham:a<=m) (hp:PuR X (tkG m X.P) a zs bs (fun k=>(k:Int)∈tkG m X.P) D1 L1)
  (htl:∀k b,k<X.D.n->Tl D1 L1 k b->Tl D2 L2 k b) (hnd:∀k,¬DP L2 k) (hs:saysD D2=0):
  (syncD D2).since=[]/\ChAt (syncD D2).sure zs ((tkG m X.P).take a)/\ChAt (syncD D2).sure bs ((tkG m X.P).drop a):=by
 have e:=vJ hs;have e1:(syncD D2).since=[]:=by rw [e];rfl
 have e2:(syncD D2).sure=D2.now:=by rw [e];rfl
 have hl:=zA m X.P;refine ⟨e1,fun i hi=>?_,fun i hi=>?_⟩
 ·rw [qG] at hi;have hm:=jU (zD (l:=(tkG m X.P).take a) (j:=i) (by rw [qG];omega));have h1:=hpn _ hm;have h2:=yW hok _ hm;have h3:=tl_clean (htl _ _ (by omega) (hp.newA i (by omega))) hnd;rw [e2,h3,ctL_at _ _ _ (by rw [qG];omega)]
 ·rw [qC] at hi;have hm:=jV (zD (l:=(tkG m X.P).drop a) (j:=i) (by rw [qC];omega));have h1:=hpn _ hm;have h2:=yW hok _ hm;have h3:=tl_clean (htl _ _ (by omega) (hp.newF i (by omega))) hnd;rw [e2,h3,ctL_at _ _ _ (by rw [qC];omega)]
def sp1 (X:St) (m a:Nat):Sp:=sup (X.g+1) X.D.n (hd0 ((tkG m X.P).take a)) (hd0 ((tkG m X.P).drop a))
def rp1 (X:St) (m a:Nat) (zs:List Int):Rp:=rpA X.D.n (sp1 X m a) zs ((tkG m X.P).take a) ((tkG m X.P).drop a)
def dbS (P:List Int) (m:Nat):List Int:=gvA (trS 1 3 (tkS m P)) (tkG m P)
def dnS (P C:List Int) (m:Nat):List Int:=trS 1 0 (gvA (tkS m P) C)
theorem com_fin (h:In X.D X.N X.L X.P X.S pl X.C X.g r T) (hm:m<=X.P.count 0) (hg:X.g+1<=1000000000) (hst:Bys zs) (ha:a=ned zs.length) (hl:m=a+ned ((X.D.n+7)/8)) {c:Nat} {D2:Dv} {L2:List Fr} (hM:Mid X.D X.L X.N X.S pl r T (tkG m X.P) c D2 L2) (hnd:∀k,¬DP L2 k) (hsi:D2.since=[])
  (hA:ChAt D2.sure zs ((tkG m X.P).take a)) (hF:ChAt D2.sure (bitL (gvA (tkS m X.P) X.C)) ((tkG m X.P).drop a)):
  okS (sp1 X m a)=true/\In (writeD D2 (1-pl) (enZ (sp1 X m a))) X.N (fgL L2 ((1-pl:Nat):Int)) (dbS X.P m) X.S pl X.C (X.g+1) r ((sp1 X m a,rp1 X m a zs)::T)/\
   Aft X.D X.L (tkG m X.P) (c+1) (writeD D2 (1-pl) (enZ (sp1 X m a))) (fgL L2 ((1-pl:Nat):Int))/\
   (saysD D2=0->saysD (writeD D2 (1-pl) (enZ (sp1 X m a)))=0->In (syncD (writeD D2 (1-pl) (enZ (sp1 X m a)))) X.N (fgL L2 ((1-pl:Nat):Int)) (dnS X.P X.C m) (sp1 X m a) (1-pl) (tkG m X.P) (X.g+1) (rp1 X m a zs) []):=by
 have hn:=hM.n;have hp2:=hM.jv.p2;have hn8:=hM.jv.ok.n8;obtain ⟨f1,f2,f3,f4⟩:=hM.fi.forget (1-pl) rfl
 have hI:In D2 X.N (fgL L2 ((1-pl:Nat):Int)) X.P X.S pl X.C X.g r T:=
  ⟨hM.jv,f1,fun k hk=>hnd k (f3 k hk).1,by rw [hn];exact h.pi,h.rc,fun y hy z hz=>by rw [hn];exact h.tc y hy z hz,h.gs,h.gt,by rw [hn];exact h.sp⟩
 have hS:sp1 X m a=sup (X.g+1) D2.n (hd0 ((tkG m X.P).take a)) (hd0 ((tkG m X.P).drop a)):=by rw [hn];rfl
 have hne:∀f∈fgL L2 ((1-pl:Nat):Int),f.page≠1-pl:=fun f hf=>(f4 f hf).2
 obtain ⟨k1,k2⟩:=hI.super hm hg hsi hst ha (by rw [hn];exact hl) hA hF hne hS;rw [hn] at k2;refine ⟨k1,k2,hM.aft.write hM.fi (by omega) (by omega) (vZ k1).1 (ZB _),fun h1 h2=>?_⟩;have k3:=hI.turn hm hg hsi hst ha (by rw [hn];exact hl) hA hF hne hS h1 h2;rw [hn] at k3;exact k3
end
end Go.Proofs.YtaijfhadecennaaGreat.Oct.Sx
namespace Go.Proofs.YtaijfhadecennaaGreat.Oct.Sx
open Go.RowKit
section
variable {w0 w w':World} {F0:Nat->Prop} {s d p sp c cC cS:Nat} {aC aS:Option Addr} {X:St} {zs:List Int} {lab lab':Nat->Nat} {S:Sp} {bg:Bool} {q1 q2 cP:Nat} {P1 P2 pgs:List Int} {aP:Option Addr}
def labM (lab:Nat->Nat) (i j:Nat) (k:Nat):Nat:=if lab k=i then 2 else if lab k=j then 3 else if lab k=2\/(lab k=3/\j≠3) then 8 else lab k
theorem CmT.move (h:CmT w0 w F0 s d p sp c aC cC lab X aS cS zs S bg q1 P1 q2 P2 aP cP pgs) (hc:Ch w.heap.size (fun k=>k=s) w w') {S':Sp} {pl:Int} (hb:w'.heap[s]?=some (.cells (stC d p q2 S' pl (.slice aP pgs.length cP) X.g) 81 (0,0))):
  (∃lab',StoC w' s d p q2 aP cP lab' {X with P:=P2,S:=S',pl:=pl,C:=pgs}/\∀k,lab' k<=3->F0 k\/w0.heap.size<=k)/\Ch w0.heap.size F0 w0 w':=by
 have hl0:=h.cm.sto.l0;have t:Trn lab 0 w w':=Trn.ch hc (fun k hk=>by rw [hk];exact hl0);obtain ⟨F1,p1,p2⟩:=h.cm.sto.pool;obtain ⟨F2,b1,b2⟩:=h.bh;have l1:=p1.lt;have l2:=JA b1;have lr:∀k,obl aP k->k<w.heap.size:=fun k hk=>(World.ownsRow.lt h.pg.1 k (zI hk)).2
 refine ⟨⟨labM lab 6 7,⟨hb,?_,⟨F1,p1.keep t.size (fun k hk=>t.block (l1 k hk) (by rw [p2 k hk];decide)),fun k hk=>?_⟩,⟨F2,zH b1 t.size (fun k hk=>t.block (l2 k hk) (by rw [b2 k hk];decide)),fun k hk=>?_⟩,OwnI.keepO h.pg.1 (fun k hk=>t.block (lr k hk) (by rw [h.pg.2 k hk];decide)),fun k hk=>?_⟩,fun k hk=>h.cm.lb.old k ?_⟩,(h.cm.lb.turn t (by decide) (fun _ _=>rfl)).ch⟩
 ·unfold labM;rw [hl0];rfl
 ·unfold labM;rw [p2 k hk];rfl
 ·unfold labM;rw [b2 k hk];rfl
 ·unfold labM;rw [h.pg.2 k hk];rfl
 ·unfold labM at hk;by_cases h9:lab k<=9
  ·exact h9
  ·rw [if_neg (by omega),if_neg (by omega),if_neg (by omega)] at hk;omega
theorem CmT.behind (h:CmT w0 w F0 s d p sp c aC cC lab X aS cS zs S bg q1 P1 q2 P2 aP cP pgs) {F F':Nat->Prop} {P':List Int} (hF:∀k,F k->lab k=6) (hl:∀k,F k->k<w.heap.size) (hp:Sps.Spa w' q2 F' P') (st:Step F F' w w'):CmT w0 w' F0 s d p sp c aC cC (relab lab w.heap.size 6) X aS cS zs S bg q1 P1 q2 P' aP cP pgs:=by
 have t:=Trn.of st hF;exact ⟨h.cm.keep (by decide) (by decide) t (Agr.relab _ 6 _),h.tk.keep t (by decide) (Agr.relab _ 6 _),⟨F',hp,Trn.foot st hF hl⟩,h.pg.keep t (by decide) (Agr.relab _ 6 _)⟩
theorem drew_heap (w:World):w.drew.heap=w.heap:=rfl
def finW (w10:World) (s:Nat) (S1:Sp) (pl:Int) (aP:Option Addr) (n cP:Nat):World:=((((((((((w10.setCell ⟨s,3,none⟩ (.int .i64 S1.g)).setCell ⟨s,4,none⟩ (.int .i64 S1.p)).setCell ⟨s,5,none⟩ (.int .i64 S1.r)).setCell ⟨s,6,none⟩ (.int .i64 S1.h)).setCell ⟨s,7,none⟩ (.int .i64 S1.b)).setCell ⟨s,8,none⟩ (.int .i64 S1.l)).setCell ⟨s,9,none⟩ (.int .i64 S1.s)).setCell ⟨s,10,none⟩ (.int .i64 S1.f)).setCell ⟨s,11,none⟩ (.int .i64 (1-pl))).setCell ⟨s,12,none⟩ (.slice aP n cP)).drew
theorem CmT.fin {w10:World} (h:CmT w0 w F0 s d p sp c aC cC lab X aS cS zs S bg q1 P1 q2 P2 aP cP pgs) (h10:Ch w.heap.size (fun k=>k=s) w w10) (hb10:w10.heap[s]?=some (.cells (stC d p q2 X.S X.pl (.slice aC X.C.length cC) X.g) 81 (0,0))) (S1:Sp) (k:Nat) (hk:(1:Int)-X.pl=(k:Int)):
  (∃lab',StoC (finW w10 s S1 X.pl aP pgs.length cP) s d p q2 aP cP lab' {X with P:=P2,S:=S1,pl:=(k:Int),C:=pgs}/\∀k,lab' k<=3->F0 k\/w0.heap.size<=k)/\Ch w0.heap.size F0 w0 (finW w10 s S1 X.pl aP pgs.length cP):=by
 refine h.move (w':=finW w10 s S1 X.pl aP pgs.length cP) (Ch.drew (Ch.setCell (p:=⟨s,12,none⟩) (Ch.setCell (p:=⟨s,11,none⟩) (Ch.setCell (p:=⟨s,10,none⟩) (Ch.setCell (p:=⟨s,9,none⟩) (Ch.setCell (p:=⟨s,8,none⟩) (Ch.setCell (p:=⟨s,7,none⟩) (Ch.setCell (p:=⟨s,6,none⟩) (Ch.setCell (p:=⟨s,5,none⟩) (Ch.setCell (p:=⟨s,4,none⟩) (Ch.setCell (p:=⟨s,3,none⟩) h10 (.inr rfl) _) (.inr rfl) _) (.inr rfl) _) (.inr rfl) _) (.inr rfl) _) (.inr rfl) _) (.inr rfl) _) (.inr rfl) _) (.inr rfl) _) (.inr rfl) _)) ?_;have b0:=yO _ s 3 (.int .i64 S1.g) _ _ _ hb10;have b1:=yO _ s 4 (.int .i64 S1.p) _ _ _ b0;have b2:=yO _ s 5 (.int .i64 S1.r) _ _ _ b1;have b3:=yO _ s 6 (.int .i64 S1.h) _ _ _ b2;have b4:=yO _ s 7 (.int .i64 S1.b) _ _ _ b3;have b5:=yO _ s 8 (.int .i64 S1.l) _ _ _ b4;have b6:=yO _ s 9 (.int .i64 S1.s) _ _ _ b5;have b7:=yO _ s 10 (.int .i64 S1.f) _ _ _ b6;have b8:=yO _ s 11 (.int .i64 (1-X.pl)) _ _ _ b7;have b9:=yO _ s 12 (.slice aP pgs.length cP) _ _ _ b8;rw [<-hk];unfold finW;rw [drew_heap,b9];simp [stC]
end
end Go.Proofs.YtaijfhadecennaaGreat.Oct.Sx
namespace Go.Proofs.YtaijfhadecennaaGreat.Oct.Sx
open Go.RowKit
section
variable {w0 w w':World} {F0:Nat->Prop} {s d p sp c cC cS:Nat} {aC aS:Option Addr} {X:St} {zs:List Int} {lab lab':Nat->Nat}
def stepsV (c p d:Nat):Array Value:= #[Value.func (Fn.func 129) #[Value.pointer (some {block:=c,off:=0})] #[],
            Value.func (Fn.func 130) #[Value.pointer (some {block:=c,off:=0})] #[],
            Value.func (Fn.func 131) #[Value.pointer (some {block:=c,off:=0})] #[],
            Value.func (Fn.func 132) #[Value.pointer (some {block:=c,off:=0})] #[],
            Value.func (Fn.func 133) #[Value.pointer (some {block:=p,off:=0})] #[],
            Value.func (Fn.func 97) #[Value.pointer (some {block:=d,off:=0})] #[],
            Value.func (Fn.func 134) #[Value.pointer (some {block:=c,off:=0})] #[],
            Value.func (Fn.func 97) #[Value.pointer (some {block:=d,off:=0})] #[]]
def RunE (w0:World) (F0:Nat->Prop) (s d p sp c:Nat) (aC:Option Addr) (cC:Nat) (X:St) (aS:Option Addr) (cS:Nat) (zs:List Int) (pl:Nat) (r:Rp) (T:List (Sp × Rp)) (m a:Nat) (e:Ending) (w':World):Prop:=
 (∃E,e=thrown E/\((E=3/\1048576<zs.length)\/(E=6/\¬m<=X.P.count 0))/\∃lab,CmC w0 w' F0 s d p sp c aC cC lab X aS cS zs (sup (X.g+1) X.D.n 0 0) (.slice none 0 0) (.pointer none) (.pointer none) false)\/
 (m<=X.P.count 0/\e=thrown 7/\∃D' L' lab q1 q2 aP cP,CmT w0 w' F0 s d p sp c aC cC lab {X with D:=D',L:=L'} aS cS zs (sp1 X m a) false q1 (tkS m X.P) q2 (gvA (tkS m X.P) X.C) aP cP (tkG m X.P)/\Mid X.D X.L X.N X.S pl r T (tkG m X.P) 12000 D' L'/\Bad X.D D')\/
 (m<=X.P.count 0/\e=thrown 7/\∃D' L' lab q1 q2 aP cP,CmT w0 w' F0 s d p sp c aC cC lab {X with D:=D',L:=L',g:=X.g+1} aS cS zs (sp1 X m a) true q1 (tkS m X.P) q2 (gvA (tkS m X.P) X.C) aP cP (tkG m X.P)/\In D' X.N L' (dbS X.P m) X.S pl X.C (X.g+1) r ((sp1 X m a,rp1 X m a zs)::T)/\Aft X.D X.L (tkG m X.P) 12000 D' L'/\Bad X.D D')\/
 (m<=X.P.count 0/\zs.length<=1048576/\e=.returned (.tuple #[])/\∃D' L',In D' X.N L' (dnS X.P X.C m) (sp1 X m a) (1-pl) (tkG m X.P) (X.g+1) (rp1 X m a zs) []/\Aft X.D X.L (tkG m X.P) 12000 D' L'/\
  ∃q2 aP cP lab,StoC w' s d p q2 aP cP lab {X with D:=D',L:=L',P:=dnS X.P X.C m,S:=sp1 X m a,pl:=((1-pl:Nat):Int),C:=tkG m X.P,g:=X.g+1}/\(∀k,lab k<=3->F0 k\/w0.heap.size<=k)/\Ch w0.heap.size F0 w0 w')
theorem Mid.mono {D0 D:Dv} {L0 L:List Fr} {N pl c c':Nat} {S:Sp} {r:Rp} {T:List (Sp × Rp)} {pgs:List Int} (h:Mid D0 L0 N S pl r T pgs c D L) (hc:c<=c'):Mid D0 L0 N S pl r T pgs c' D L:={h with ops:=by have:=h.ops;omega}
theorem Aft.mono {D0 D:Dv} {L0 L:List Fr} {c c':Nat} {pgs:List Int} (h:Aft D0 L0 pgs c D L) (hc:c<=c'):Aft D0 L0 pgs c' D L:={h with ops:=by have:=h.ops;omega}
theorem CmT.base {w1:World} {lb:Nat->Nat} {S:Sp} {bg:Bool} {q1 q2 cP:Nat} {P1 P2 pgs:List Int} {aP:Option Addr} (h:CmT w1 w' (fun k=>lb k<=9) s d p sp c aC cC lab X aS cS zs S bg q1 P1 q2 P2 aP cP pgs) (h0:LbC w0 w1 F0 lb):CmT w0 w' F0 s d p sp c aC cC lab X aS cS zs S bg q1 P1 q2 P2 aP cP pgs:=
 ⟨⟨h.cm.sto,h.cm.lb.base h0,h.cm.us,h.cm.cm,h.cm.lc⟩,h.tk,h.bh,h.pg⟩
theorem room_two {lb:Nat->Nat} {w1:World} {m a:Nat} (hn:X.P.length=X.D.n) (ha:ned zs.length=a) (hm:a+ned ((X.D.n+7)/8)=m) {e:Ending} (h:RoE w1 (fun k=>lb k<=9) s d p sp c aC cC X aS cS zs (X.g+1) X.D.n e w'):
  ∃E:Int,e=.returned (.int .i64 E)/\((E=0/\m<=X.P.count 0/\∃lab q1 q2 aP cP,CmT w1 w' (fun k=>lb k<=9) s d p sp c aC cC lab X aS cS zs (sp1 X m a) false q1 (tkS m X.P) q2 (gvA (tkS m X.P) X.C) aP cP (tkG m X.P))\/(E=6/\¬m<=X.P.count 0/\∃lab,CmC w1 w' (fun k=>lb k<=9) s d p sp c aC cC lab X aS cS zs (sup (X.g+1) X.D.n 0 0) (.slice none 0 0) (.pointer none) (.pointer none) false)):=by
 unfold RoE at h;dsimp only at h;rw [hn,ha,hm] at h;rcases h with ⟨h1,h2,h3⟩|⟨h1,h2,h3⟩
 ·exact ⟨0,h2,.inl ⟨rfl,h1,h3⟩⟩
 ·exact ⟨6,h2,.inr ⟨rfl,h1,h3⟩⟩
set_option maxRecDepth 20000 in
theorem run_any {pl:Nat} {r:Rp} {T:List (Sp × Rp)} (h:CmC w0 w F0 s d p sp c aC cC lab X aS cS zs (sup (X.g+1) X.D.n 0 0) (.slice none 0 0) (.pointer none) (.pointer none) false) (hI:In X.D X.N X.L X.P X.S pl X.C X.g r T) (hpl:X.pl=(pl:Int)) (hzb:Bys zs) (hzl:zs.length<=1000000000) (hg:X.g+1<=1000000000) (hops:X.D.ops+12000<=1000000000) (hsi:X.D.since.length+12000<=900000):
  Calls Tryz.prog 82 #[.pointer (some ⟨c,0,none⟩)] w (RunE w0 F0 s d p sp c aC cC X aS cS zs pl r T (ned zs.length+ned ((X.D.n+7)/8)) (ned zs.length)):=by
 obtain ⟨c0,c1,c10,c11,c12,_⟩:=h.at;obtain ⟨s0,s1,_⟩:=h.sto.at;have HC:Hid (CmC w0 w F0 s d p sp c aC cC lab X aS cS zs (sup (X.g+1) X.D.n 0 0) (.slice none 0 0) (.pointer none) (.pointer none) false):=h;have HK:Hid (In X.D X.N X.L X.P X.S pl X.C X.g r T/\X.pl=(pl:Int)/\Bys zs/\zs.length<=1000000000/\X.g+1<=1000000000/\X.D.ops+12000<=1000000000/\X.D.since.length+12000<=900000):=⟨hI,hpl,hzb,hzl,hg,hops,hsi⟩;clear h hI hpl hzb hzl hg hops hsi c1 c10 c11 c12;go_enter Tryz.func82,Tryz.ntmps82
 go_wp2_with fail
 refine wp_region_held_drew (S:=fun w'=>w'.cell? ⟨s,0,none⟩=some (.pointer (some ⟨d,0,none⟩))/\w'.cell? ⟨s,1,none⟩=some (.pointer (some ⟨p,0,none⟩))) (by kernel_rfl) ?_ (fun hHeld=>?_)
 ·(first|go_keep|exact ⟨by assumption,by assumption⟩)
 refine wpAnyH_take (i:=0) (v:=?_) rfl (by kernel_rfl) (by kernel_rfl) (by kernel_rfl) (fun _ _ _ h=>h) (Or.inl ⟨by rfl,?_⟩) (by assumption) ?_;rotate_left
 ·intro w hSw;(try dsimp only at hSw);go_simp;try with_reducible rfl
 simp only [jJ,jF,Act.put,jD,jL,jI];refine wpAnyH_take (i:=1) (v:=?_) rfl (by kernel_rfl) (by kernel_rfl) (by kernel_rfl) (fun _ _ _ h=>h) (Or.inl ⟨by rfl,?_⟩) (by assumption) ?_;rotate_left
 ·intro w hSw;(try dsimp only at hSw);go_simp;try with_reducible rfl
 simp only [jJ,jG,jF,Act.put,jD,jL,jI];refine wpAnyH_take (i:=2) (v:=?_) rfl (by kernel_rfl) (by kernel_rfl) (by kernel_rfl) (fun _ _ _ h=>h) (Or.inl ⟨by rfl,?_⟩) (by assumption) ?_;rotate_left
 ·intro w hSw;(try dsimp only at hSw);go_simp;try with_reducible rfl
 simp only [jJ,jG,jF,Act.put,jD,jL,jI];refine wpAnyH_take (i:=3) (v:=?_) rfl (by kernel_rfl) (by kernel_rfl) (by kernel_rfl) (fun _ _ _ h=>h) (Or.inl ⟨by rfl,?_⟩) (by assumption) ?_;rotate_left
 ·intro w hSw;(try dsimp only at hSw);go_simp;try with_reducible rfl
 simp only [jJ,jG,jF,Act.put,jD,jL,jI];refine wpAnyH_take (i:=4) (v:=?_) rfl (by kernel_rfl) (by kernel_rfl) (by kernel_rfl) (fun _ _ _ h=>h) (Or.inl ⟨by rfl,?_⟩) (by assumption) ?_;rotate_left
 ·intro w hSw;(try dsimp only at hSw);go_simp;try with_reducible rfl
 simp only [jJ,jG,jF,Act.put,jD,jL,jI];refine wpAnyH_take (i:=5) (v:=?_) rfl (by kernel_rfl) (by kernel_rfl) (by kernel_rfl) (fun _ _ _ h=>h) (Or.inl ⟨by rfl,?_⟩) (by assumption) ?_;rotate_left
 ·intro w hSw;(try dsimp only at hSw);go_simp;try with_reducible rfl
 simp only [jJ,jG,jF,Act.put,jD,jL,jI];refine wpAnyH_take (i:=6) (v:=?_) rfl (by kernel_rfl) (by kernel_rfl) (by kernel_rfl) (fun _ _ _ h=>h) (Or.inl ⟨by rfl,?_⟩) (by assumption) ?_;rotate_left
 ·intro w hSw;(try dsimp only at hSw);go_simp;try with_reducible rfl
 simp only [jJ,jG,jF,Act.put,jD,jL,jI];refine wpAnyH_take (i:=7) (v:=?_) rfl (by kernel_rfl) (by kernel_rfl) (by kernel_rfl) (fun _ _ _ h=>h) (Or.inl ⟨by rfl,?_⟩) (by assumption) ?_;rotate_left
 ·intro w hSw;(try dsimp only at hSw);go_simp;try with_reducible rfl
 simp only [jJ,jG,jF,Act.put,jD,jL,jI];refine wpAnyH_take (i:=8) (v:=?_) rfl (by kernel_rfl) (by kernel_rfl) (by kernel_rfl) (fun _ _ _ h=>h) (Or.inl ⟨by rfl,?_⟩) (by assumption) ?_;rotate_left
 ·intro w hSw;(try dsimp only at hSw);go_simp;try with_reducible rfl
 simp only [jJ,jG,jF,Act.put,jD,jL,jI];refine wpAnyH_take (i:=9) (v:=?_) rfl (by kernel_rfl) (by kernel_rfl) (by kernel_rfl) (fun _ _ _ h=>h) (Or.inl ⟨by rfl,?_⟩) (by assumption) ?_;rotate_left
 ·intro w hSw;(try dsimp only at hSw);go_simp;try with_reducible rfl
 simp only [jJ,jG,jF,Act.put,jD,jL,jI];refine wpAnyH_take (i:=10) (v:=?_) rfl (by kernel_rfl) (by kernel_rfl) (by kernel_rfl) (fun _ _ _ h=>h) (Or.inl ⟨by rfl,?_⟩) (by assumption) ?_;rotate_left
 ·intro w hSw;(try dsimp only at hSw);go_simp;try with_reducible rfl
 simp only [jJ,jG,jF,Act.put,jD,jL,jI];refine wpAnyH_take (i:=11) (v:=?_) rfl (by kernel_rfl) (by kernel_rfl) (by kernel_rfl) (fun _ _ _ h=>h) (Or.inl ⟨by rfl,?_⟩) (by assumption) ?_;rotate_left
 ·intro w hSw;(try dsimp only at hSw);go_simp;try with_reducible rfl
 simp only [jJ,jG,jF,Act.put,jD,jL,jI];refine wpAnyH_take (i:=12) (v:=?_) rfl (by kernel_rfl) (by kernel_rfl) (by kernel_rfl) (fun _ _ _ h=>h) (Or.inl ⟨by rfl,?_⟩) (by assumption) ?_;rotate_left
 ·intro w hSw;(try dsimp only at hSw);go_simp;try with_reducible rfl
 simp only [jJ,jG,jF,Act.put,jD,jL,jI];refine wpAnyH_take (i:=13) (v:=?_) rfl (by kernel_rfl) (by kernel_rfl) (by kernel_rfl) (fun _ _ _ h=>h) (Or.inl ⟨by rfl,?_⟩) (by assumption) ?_;rotate_left
 ·intro w hSw;(try dsimp only at hSw);go_simp;try with_reducible rfl
 simp only [jJ,jG,jF,Act.put,jD,jL,jI];refine wpAnyH_take (i:=14) (v:=?_) rfl (by kernel_rfl) (by kernel_rfl) (by kernel_rfl) (fun _ _ _ h=>h) (Or.inl ⟨by rfl,?_⟩) (by assumption) ?_;rotate_left
 ·intro w hSw;(try dsimp only at hSw);go_simp;try with_reducible rfl
 simp only [jJ,jG,jF,Act.put,jD,jL,jI];refine wpAnyH_take (i:=15) (v:=?_) rfl (by kernel_rfl) (by kernel_rfl) (by kernel_rfl) (fun _ _ _ h=>h) (Or.inl ⟨by rfl,?_⟩) (by assumption) ?_;rotate_left
 ·intro w hSw;(try dsimp only at hSw);go_simp;try with_reducible rfl
 simp only [jJ,jG,jF,Act.put,jD,jL,jI];refine wpAnyH_take (i:=16) (v:=?_) rfl (by kernel_rfl) (by kernel_rfl) (by kernel_rfl) (fun _ _ _ h=>h) (Or.inl ⟨by rfl,?_⟩) (by assumption) ?_;rotate_left
 ·intro w hSw;(try dsimp only at hSw);go_simp;try with_reducible rfl
 simp only [jJ,jG,jF,Act.put,jD,jL,jI];refine wpAnyH_take (i:=17) (v:=?_) rfl (by kernel_rfl) (by kernel_rfl) (by kernel_rfl) (fun _ _ _ h=>h) (Or.inl ⟨by rfl,?_⟩) (by assumption) ?_;rotate_left
 ·intro w hSw;(try dsimp only at hSw);go_simp;try with_reducible rfl
 simp only [jJ,jG,jF,Act.put,jD,jL,jI];refine wpAnyH_take (i:=18) (v:=?_) rfl (by kernel_rfl) (by kernel_rfl) (by kernel_rfl) (fun _ _ _ h=>h) (Or.inl ⟨by rfl,?_⟩) (by assumption) ?_;rotate_left
 ·intro w hSw;(try dsimp only at hSw);go_simp;try with_reducible rfl
 simp only [jJ,jG,jF,Act.put,jD,jL,jI];refine wpAnyH_take (i:=19) (v:=?_) rfl (by kernel_rfl) (by kernel_rfl) (by kernel_rfl) (fun _ _ _ h=>h) (Or.inl ⟨by rfl,?_⟩) (by assumption) ?_;rotate_left
 ·intro w hSw;(try dsimp only at hSw);go_simp;try with_reducible rfl
 simp only [jJ,jG,jF,Act.put,jD,jL,jI];refine wpAnyH_take (i:=20) (v:=?_) rfl (by kernel_rfl) (by kernel_rfl) (by kernel_rfl) (fun _ _ _ h=>h) (Or.inl ⟨by rfl,?_⟩) (by assumption) ?_;rotate_left
 ·intro w hSw;(try dsimp only at hSw);go_simp;try with_reducible rfl
 simp only [jJ,jG,jF,Act.put,jD,jL,jI];refine wpAnyH_take (i:=21) (v:=?_) rfl (by kernel_rfl) (by kernel_rfl) (by kernel_rfl) (fun _ _ _ h=>h) (Or.inl ⟨by rfl,?_⟩) (by assumption) ?_;rotate_left
 ·intro w hSw;(try dsimp only at hSw);go_simp;try with_reducible rfl
 simp only [jJ,jG,jF,Act.put,jD,jL,jI];refine wpAnyH_take (i:=22) (v:=?_) rfl (by kernel_rfl) (by kernel_rfl) (by kernel_rfl) (fun _ _ _ h=>h) (Or.inl ⟨by rfl,?_⟩) (by assumption) ?_;rotate_left
 ·intro w hSw;(try dsimp only at hSw);go_simp;try with_reducible rfl
 simp only [jJ,jG,jF,Act.put,jD,jL,jI];refine wpAnyH_take (i:=23) (v:=?_) rfl (by kernel_rfl) (by kernel_rfl) (by kernel_rfl) (fun _ _ _ h=>h) (Or.inl ⟨by rfl,?_⟩) (by assumption) ?_;rotate_left
 ·intro w hSw;(try dsimp only at hSw);go_simp;try with_reducible rfl
 simp only [jJ,jG,jF,Act.put,jD,jL,jI];refine wpAnyH_take (i:=24) (v:=?_) rfl (by kernel_rfl) (by kernel_rfl) (by kernel_rfl) (fun _ _ _ h=>h) (Or.inl ⟨by rfl,?_⟩) (by assumption) ?_;rotate_left
 ·intro w hSw;(try dsimp only at hSw);go_simp;try with_reducible rfl
 simp only [jJ,jG,jF,Act.put,jD,jL,jI];refine wpAnyH_ready (rs:=[25]) (by kernel_rfl) (by simp) ?_;refine AllReadyH.cons rfl (fun K hK=>?_) AllReadyH.nil;go_simp
 skip
 go_wp2_with fail
 refine hK.out _ _ ?_ (fun hHeld2=>?_)
 ·(first|go_keep|exact ⟨by assumption,by assumption⟩)
 clear hK K hHeld;have hHeld:=hHeld2;clear hHeld2;refine wpAnyH_take (i:=26) (v:=?_) rfl (by kernel_rfl) (by kernel_rfl) (by kernel_rfl) (fun _ _ _ h=>h) (Or.inl ⟨by rfl,?_⟩) (by assumption) ?_;rotate_left
 ·intro w hSw;(try dsimp only at hSw);go_simp;try with_reducible rfl
 simp only [jJ,jG,jF,Act.put,jD,jL,jI];refine wpAnyH_done (by kernel_rfl) ?_ _
 obtain ⟨w1,hw1⟩:∃w1,(w.alloc (Obj.cells #[Value.func (Fn.func 129) #[Value.pointer (some {block:=c,off:=0})] #[],
           Value.func (Fn.func 130) #[Value.pointer (some {block:=c,off:=0})] #[],
           Value.func (Fn.func 131) #[Value.pointer (some {block:=c,off:=0})] #[],
           Value.func (Fn.func 132) #[Value.pointer (some {block:=c,off:=0})] #[],
           Value.func (Fn.func 133) #[Value.pointer (some {block:=p,off:=0})] #[],
           Value.func (Fn.func 97) #[Value.pointer (some {block:=d,off:=0})] #[],
           Value.func (Fn.func 134) #[Value.pointer (some {block:=c,off:=0})] #[],
           Value.func (Fn.func 97) #[Value.pointer (some {block:=d,off:=0})] #[]] 130)).drew=w1:=⟨_,rfl⟩
 rw [hw1]
 replace hw1:(w.alloc (Obj.cells (stepsV c p d) 130)).drew=w1:=hw1
 have hb1:Below w.heap.size w w1:=by
  rw [<-hw1];exact ((Below.refl _ w).alloc (jB _) _).drew
 have h0:=HC.out.keep (i:=9) (by decide) (by decide) (Trn.below hb1) (Agr.relab _ 10 _);have HB:Hid (LbC w0 w1 F0 (relab lab w.heap.size 10)):=h0.lb;have H1:Hid (CmC w1 w1 (fun k=>relab lab w.heap.size 10 k<=9) s d p sp c aC cC (relab lab w.heap.size 10) X aS cS zs (sup (X.g+1) X.D.n 0 0) (.slice none 0 0) (.pointer none) (.pointer none) false):=⟨h0.sto,⟨fun k hk=>.inl hk,Ch.refl _ _ _⟩,h0.us,h0.cm,h0.lc⟩
 have HG:Hid (∀(wx:World),Ch w1.heap.size (fun k=>relab lab w.heap.size 10 k<=9) w1 wx->∀i,wx.cell? ⟨w.heap.size,i,none⟩=(stepsV c p d)[i]?):=by
  intro wx hk i
  have h1:w1.heap[w.heap.size]?=some (.cells (stepsV c p d) 130 (0,0)):=by
   rw [<-hw1];exact heap_alloc_new w _
  exact cell_of_row wx _ _ _ _ (0,0) ((hk.block _ (yR h1) (fun e=>by rw [JH (jB _)] at e;omega)).trans h1)
 obtain ⟨lab1,hlab1⟩:∃l,relab lab w.heap.size 10=l:=⟨_,rfl⟩;rw [hlab1] at HB H1 HG;clear hw1 HC hHeld hb1 h0 hlab1
 have hE0:enE (sup (X.g+1) X.D.n 0 0)=0:=by
  have h1:=HK.out.1.jv.ok;have h2:=HK.out.1.gs;have h3:=(ZI HK.out.1.jv.sp).1;unfold enE;rw [if_pos (FY (by omega) HK.out.2.2.2.2.1 (by have:=h1.n8;omega) (by have:=h1.n4;omega) (.inl rfl) (.inl rfl))]
 have g0:=HG.out w1 (Ch.refl _ _ _) 0;unfold stepsV at g0;simp only [qZ,xB] at g0;have hcs:=KF H1.out 0 hE0;clear hE0 c0 s0 s1;go_wp2_with fail
 refine wp_loop_rounds 9 ?_;rw [rounds_succ]
 go_wp2_with (first
  |(go_at_call 129;refine hcs.mono ?_;rintro e w2 ⟨rfl,hb2⟩
    have H2:Hid (∃lab2,CmC w1 w2 (fun k=>lab1 k<=9) s d p sp c aC cC lab2 X aS cS zs (sup (X.g+1) X.D.n 0 0) (.slice none 0 0) (.pointer none) (.pointer none) false):=⟨_,H1.out.keep (i:=9) (by decide) (by decide) (Trn.below hb2) (Agr.relab _ 9 _)⟩;clear hcs hb2 g0 H1)
  |(go_at_call 92;refine (check_ok _).mono ?_;rintro e w' ⟨rfl,rfl⟩))
 obtain ⟨lab2,hC2⟩:=H2.out;have g1:=HG.out w2 hC2.lb.ch 1;unfold stepsV at g1;simp only [qZ,xB,qK] at g1;have hcs:=KG hC2 HK.out.2.2.2.1;have HC2:Hid _:=hC2;clear hC2 H2;rw [rounds_succ];by_cases hz:zs.length<=1048576
 ·rw [if_pos hz] at hcs
  go_wp2_with (first
   |(go_at_call 130;refine hcs.mono ?_;rintro e w' ⟨rfl,rfl⟩;clear hcs g1)
   |(go_at_call 92;refine (check_ok _).mono ?_;rintro e w' ⟨rfl,rfl⟩))
  have HPI:Hid (PInv X.D.n X.P X.C):=HK.out.1.pi;have hro:=FX HC2.out hz (fun z hz=>by have:=yW HPI.out.c z hz;omega);rw [rounds_succ];have g2:=HG.out w2 HC2.out.lb.ch 2;unfold stepsV at g2;simp only [qZ,xB,qK] at g2;have HZ:Hid (zs.length<=1048576):=hz;obtain ⟨a,ha⟩:∃a,ned zs.length=a:=⟨_,rfl⟩;obtain ⟨m,hm⟩:∃m,a+ned ((X.D.n+7)/8)=m:=⟨_,rfl⟩;have HA:Hid (ned zs.length=a/\a+ned ((X.D.n+7)/8)=m):=⟨ha,hm⟩;rw [ha,hm];clear hz ha hm HC2
  go_wp2_with (first
   |(go_at_call 131;refine hro.mono ?_;rintro e w3 hRo
     obtain ⟨E,rfl,hRo2⟩:=room_two HPI.out.len HA.out.1 HA.out.2 hRo;have HRo:Hid _:=hRo2;clear hro hRo hRo2 g2))
  rcases HRo.out with ⟨rfl,hmc,lab3,q1,q2,aP,cP,hT3⟩|⟨rfl,hmc,lab3,hC3⟩
  ·have HT3:Hid (CmT w1 w3 (fun k=>lab1 k<=9) s d p sp c aC cC lab3 X aS cS zs (sp1 X m a) false q1 (tkS m X.P) q2 (gvA (tkS m X.P) X.C) aP cP (tkG m X.P)):=hT3;have HM:Hid (m<=X.P.count 0):=hmc;clear HRo hT3 hmc;go_wp2_with (go_at_call 92;refine (check_ok _).mono ?_;rintro e w' ⟨rfl,rfl⟩)
   have g3:=HG.out w3 HT3.out.cm.lb.ch 3;unfold stepsV at g3;simp only [qZ,xB,qK] at g3;obtain ⟨pg1,pg2,pg3⟩:=HPI.out.pg HM.out;have hgl:=zA m X.P;have hm4:m<=4096:=by have h1:=List.count_le_length (a:=(0:Int)) (l:=X.P);have h2:=HPI.out.len;have h3:=HK.out.1.jv.ok.n4;have h4:=HM.out;omega
   have hP2:(gvA (tkS m X.P) X.C).length=X.D.n:=by rw [UU,JF];exact HPI.out.len
   have hpc:=KS HT3.out HK.out.2.2.1 pg1 pg2 (by rw [hgl,hP2,HA.out.1];exact HA.out.2.symm) (by omega) HK.out.1.fi (Q:=fun k=>(k:Int)∈tkG m X.P) (fun k hk=>absurd hk (HK.out.1.nd k)) (fun z hz=>by have:=yW pg1 z hz;show ((z.toNat:Nat):Int)∈_;rw [qF (by omega)];exact hz) (by have:=HK.out.2.2.2.2.2.1;omega) (by have:=HK.out.2.2.2.2.2.2;omega);have HPG:Hid (CtOk (tkG m X.P)/\(∀z∈tkG m X.P,z<(X.D.n:Int))/\m<=4096):=⟨pg1,pg2,hm4⟩;clear pg1 pg2 pg3 hgl hm4 hP2 HT3;rw [rounds_succ]
   go_wp2_with (first
    |(go_at_call 132;refine hpc.mono ?_;rintro e w4 ⟨D1,L1,hT4,hE4⟩
      obtain ⟨E,rfl,hE5⟩:=VF hE4;have HT4:Hid (∃lab,CmT w1 w4 (fun k=>lab1 k<=9) s d p sp c aC cC lab {X with D:=D1,L:=L1} aS cS zs (sp1 X m a) false q1 (tkS m X.P) q2 (gvA (tkS m X.P) X.C) aP cP (tkG m X.P)):=hT4;have HE4:Hid _:=hE5;clear hpc hT4 hE4 hE5 g3))
   rcases HE4.out with ⟨rfl,hA⟩|⟨rfl,hB⟩
   ·rw [HA.out.1] at hA;have HR:Hid (PuR X (tkG m X.P) a zs (bitL (gvA (tkS m X.P) X.C)) (fun k=>(k:Int)∈tkG m X.P) D1 L1):=hA;have HM4:Hid (Mid X.D X.L X.N X.S pl r T (tkG m X.P) m D1 L1):=puR_mid HK.out.1 HM.out hA;clear HE4 hA;go_wp2_with (go_at_call 92;refine (check_ok _).mono ?_;rintro e w' ⟨rfl,rfl⟩)
    obtain ⟨lab4,hT4⟩:=HT4.out;obtain ⟨F4,hp4,_⟩:=hT4.cm.sto.pool;have HN:Hid (X.N<=4096):=(pool_n hp4).2;have ho4:=HM4.out.ops;have hm4:=HPG.out.2.2;obtain ⟨ko1,ko2⟩:X.D.ops+12000<=1000000000/\X.D.since.length+12000<=900000:=HK.out.2.2.2.2.2;have hfl:=flush_st hT4 (by show D1.ops<=_;omega) (by show D1.since.length<=_;omega);obtain ⟨R,hR⟩:∃R,flS (pgsP L1 fitD) D1 L1=R:=⟨_,rfl⟩;obtain ⟨hM5,htl5,hE5⟩:=HM4.out.flush (fun k hk=>HK.out.1.apart HM.out k hk) hR;obtain ⟨E,D2,L2⟩:=R;have HTL:Hid (∀k b,k<X.D.n->Tl D1 L1 k b->Tl D2 L2 k b):=htl5;have HM5:Hid (Mid X.D X.L X.N X.S pl r T (tkG m X.P) (m+X.N) D2 L2):=hM5;have HE5:Hid ((E=0/\(∀k,¬DP L2 k))\/(E=7/\Bad X.D D2)):=hE5;dsimp only at hfl;rw [hR] at hfl;dsimp only at hfl;have g4:=HG.out w4 hT4.cm.lb.ch 4;unfold stepsV at g4;simp only [qZ,xB,qK] at g4;clear hR hM5 htl5 hE5 hp4 ho4 hT4 HT4 HM4 hm4 ko1 ko2;rw [rounds_succ]
    go_wp2_with (first
     |(go_at_call 133;refine hfl.mono ?_;rintro e w5 ⟨rfl,hT5⟩
       have HT5:Hid (∃lab,CmT w1 w5 (fun k=>lab1 k<=9) s d p sp c aC cC lab {X with D:=D2,L:=L2} aS cS zs (sp1 X m a) false q1 (tkS m X.P) q2 (gvA (tkS m X.P) X.C) aP cP (tkG m X.P)):=hT5;clear hfl hT5 g4))
    rcases HE5.out with ⟨rfl,hnd⟩|⟨rfl,hbad⟩
    ·have HND:Hid (∀k,¬DP L2 k):=hnd;clear HE5 hnd;go_wp2_with (go_at_call 92;refine (check_ok _).mono ?_;rintro e w' ⟨rfl,rfl⟩)
     obtain ⟨lab5,hT5⟩:=HT5.out;have ho5:=HM5.out.ops;have hsy:=sync_st hT5 (by have h1:=HPG.out.2.2;have h2:=HN.out;have h3:=HK.out.2.2.2.2.2.1;show D2.ops<=_;omega);dsimp only at hsy;have g5:=HG.out w5 hT5.cm.lb.ch 5;unfold stepsV at g5;simp only [qZ,xB,qK] at g5;clear hT5 HT5 ho5;rw [rounds_succ]
     go_wp2_with (first
      |(go_at_call 97;refine hsy.mono ?_;rintro e w6 ⟨rfl,hT6⟩
        have HT6:Hid (∃lab,CmT w1 w6 (fun k=>lab1 k<=9) s d p sp c aC cC lab {X with D:=syncD D2,L:=L2} aS cS zs (sp1 X m a) false q1 (tkS m X.P) q2 (gvA (tkS m X.P) X.C) aP cP (tkG m X.P)):=hT6;clear hsy hT6 g5))
     rcases zL D2 with hs|hs
     ·rw [hs];go_wp2_with (go_at_call 92;refine (check_ok _).mono ?_;rintro e w' ⟨rfl,rfl⟩)
      obtain ⟨hsi3,hA3,hF3⟩:=chains_sure HPG.out.1 HPG.out.2.1 (by have:=HA.out.2;omega) HR.out HTL.out HND.out hs;have hM6:=HM5.out.sync;obtain ⟨D3,hD3⟩:∃D3,syncD D2=D3:=⟨_,rfl⟩;rw [hD3] at hM6 hsi3 hA3 hF3 HT6;have hcf:=com_fin HK.out.1 HM.out HK.out.2.2.2.2.1 HK.out.2.2.1 HA.out.1.symm HA.out.2.symm hM6 HND.out hsi3 hA3 hF3;have HM6:Hid (Mid X.D X.L X.N X.S pl r T (tkG m X.P) (m+X.N+1) D3 L2/\m+X.N+1<=10000):=⟨hM6,by have h1:=HPG.out.2.2;have h2:=HN.out;omega⟩;have HCF:Hid _:=hcf;obtain ⟨lab6,hT6⟩:=HT6.out;have hp2:=HK.out.1.jv.p2;have hws:=VB hT6 HCF.out.1 (1-pl) (by have h1:=HK.out.2.1;show (1:Int)-X.pl=_;omega) (by have h1:=HK.out.2.1;show 0<=X.pl/\X.pl<=1;omega) (by have h1:=HM6.out.1.n;have h2:=HK.out.1.jv.ok.n8;show 2<=D3.n;omega) (by have h1:=HM6.out.1.ops;have h2:=HM6.out.2;have h3:=HK.out.2.2.2.2.2.1;show D3.ops<=_;omega) (by have h1:=HM6.out.1.ops;have h2:=HM6.out.2;have h3:=HK.out.2.2.2.2.2.2;show D3.since.length<=_;omega);have g6:=HG.out w6 hT6.cm.lb.ch 6;unfold stepsV at g6;simp only [qZ,xB,qK] at g6;clear hT6 HT6 hsi3 hA3 hF3 hM6 hD3 hcf HM5 HTL HR hp2 hs;rw [rounds_succ]
      go_wp2_with (first
       |(go_at_call 134;refine hws.mono ?_;rintro e w7 ⟨rfl,hT7⟩
         obtain ⟨D4,hD4⟩:∃D4,writeD D3 (1-pl) (enZ (sp1 X m a))=D4:=⟨_,rfl⟩;obtain ⟨L4,hL4⟩:∃L4,fgL L2 ((1-pl:Nat):Int)=L4:=⟨_,rfl⟩;have HT7:Hid (∃lab,CmT w1 w7 (fun k=>lab1 k<=9) s d p sp c aC cC lab {X with D:=D4,L:=L4,g:=X.g+1} aS cS zs (sp1 X m a) true q1 (tkS m X.P) q2 (gvA (tkS m X.P) X.C) aP cP (tkG m X.P)):=by rw [<-hD4,<-hL4];exact hT7
         have HD4:Hid (writeD D3 (1-pl) (enZ (sp1 X m a))=D4):=hD4;rw [hD4,hL4] at HCF;clear hws hT7 hD4 hL4 g6))
      rcases zL D3 with hs3|hs3
      ·rw [hs3];go_wp2_with (go_at_call 92;refine (check_ok _).mono ?_;rintro e w' ⟨rfl,rfl⟩)
       obtain ⟨lab7,hT7⟩:=HT7.out;have hsy:=sync_st hT7 (by have h1:=HCF.out.2.2.1.ops;have h2:=HM6.out.2;have h3:=HK.out.2.2.2.2.2.1;show D4.ops<=_;omega);dsimp only at hsy;have g7:=HG.out w7 hT7.cm.lb.ch 7;unfold stepsV at g7;simp only [qZ,xB,qK] at g7;clear hT7 HT7;rw [rounds_succ]
       go_wp2_with (first
        |(go_at_call 97;refine hsy.mono ?_;rintro e w8 ⟨rfl,hT8⟩
          have HT8:Hid (∃lab,CmT w1 w8 (fun k=>lab1 k<=9) s d p sp c aC cC lab {X with D:=syncD D4,L:=L4,g:=X.g+1} aS cS zs (sp1 X m a) true q1 (tkS m X.P) q2 (gvA (tkS m X.P) X.C) aP cP (tkG m X.P)):=hT8;clear hsy hT8 g7))
       rcases zL D4 with hs4|hs4
       ·rw [hs4];have HI8:Hid (In (syncD D4) X.N L4 (dnS X.P X.C m) (sp1 X m a) (1-pl) (tkG m X.P) (X.g+1) (rp1 X m a zs) []/\Aft X.D X.L (tkG m X.P) 12000 (syncD D4) L4):=⟨HCF.out.2.2.2 hs3 hs4,HCF.out.2.2.1.sync.mono (by have:=HM6.out.2;omega)⟩;clear HCF HM6 hs3 hs4 HND;go_wp2_with (go_at_call 92;refine (check_ok _).mono ?_;rintro e w' ⟨rfl,rfl⟩)
        rw [rounds_succ];obtain ⟨lab8,hT8⟩:=HT8.out;have x12:=hT8.cm.at.2.2.2.2.1;obtain ⟨F8,hb8,hl8⟩:=hT8.bh;have hcm:=Sps.commit_any hb8;have HS8:Hid (CmT w1 w8 (fun k=>lab1 k<=9) s d p sp c aC cC lab8 {X with D:=syncD D4,L:=L4,g:=X.g+1} aS cS zs (sp1 X m a) true q1 (tkS m X.P) q2 (gvA (tkS m X.P) X.C) aP cP (tkG m X.P)/\(∀k,F8 k->lab8 k=6)/\∀k,F8 k->k<w8.heap.size):=⟨hT8,hl8,JA hb8⟩;clear hT8 HT8 hb8 hl8
        go_wp2_with (first
         |(go_at_call 93;refine hcm.mono ?_;rintro e w9 ⟨rfl,F9,h9,st9⟩
           have HT9:Hid (CmT w1 w9 (fun k=>lab1 k<=9) s d p sp c aC cC (relab lab8 w8.heap.size 6) {X with D:=syncD D4,L:=L4,g:=X.g+1} aS cS zs (sp1 X m a) true q1 (tkS m X.P) q2 (dnS X.P X.C m) aP cP (tkG m X.P)):=HS8.out.1.behind HS8.out.2.1 HS8.out.2.2 h9 st9;have y12:=HT9.out.cm.at.2.2.2.2.1;have hst:=settle_any s q2 _ w9 HT9.out.cm.sto.cells rfl;clear hcm h9 st9 x12 HS8)
         |(go_at_call 135;refine hst.mono ?_;rintro e w10 ⟨rfl,hw10⟩
           have hc10:Ch w9.heap.size (fun k=>k=s) w9 w10:=by rw [hw10];exact (((Ch.refl w9.heap.size (fun k=>k=s) w9).setCell (p:=⟨s,2,none⟩) (.inr rfl) _).setCell (p:=⟨s,14,none⟩) (.inr rfl) _).setCell (p:=⟨s,15,none⟩) (.inr rfl) _
           have hb10:w10.heap[s]?=some (.cells (stC d p q2 X.S X.pl (.slice aC X.C.length cC) (X.g+1)) 81 (0,0)):=by
            rw [hw10,yO _ _ _ _ _ _ _ (yO _ _ _ _ _ _ _ (yO _ _ _ _ _ _ _ HT9.out.cm.sto.cells))];rfl
           have HW:Hid (Ch w9.heap.size (fun k=>k=s) w9 w10/\w10.heap[s]?=some (.cells (stC d p q2 X.S X.pl (.slice aC X.C.length cC) (X.g+1)) 81 (0,0))):=⟨hc10,hb10⟩;clear hst hw10 hc10 hb10 y12))
        have hcs':¬c=s:=fun e=>by have h1:=HT9.out.cm.lc;have h2:=HT9.out.cm.sto.l0;rw [e] at h1;omega
        have hkc:∀i,w10.cell? ⟨c,i,none⟩=w9.cell? ⟨c,i,none⟩:=fun i=>HW.out.1.cell (p:=⟨c,i,none⟩) (yR HT9.out.cm.cm) hcs'
        have e0:=(hkc 0).trans HT9.out.cm.at.1;have e10:=(hkc 10).trans HT9.out.cm.at.2.2.1;obtain ⟨t2,t3,t4,t5,t6,t7,t8,t9⟩:=HT9.out.cm.super;rw [<-hkc] at t2 t3 t4 t5 t6 t7 t8 t9;have hks:∀i,w10.cell? ⟨s,i,none⟩=(stC d p q2 X.S X.pl (.slice aC X.C.length cC) (X.g+1))[i]?:=fun i=>cell_of_row w10 _ _ _ _ (0,0) HW.out.2
        have u3:w10.cell? ⟨s,3,none⟩=some (.int .i64 X.S.g):=by rw [hks];rfl
        have u4:w10.cell? ⟨s,4,none⟩=some (.int .i64 X.S.p):=by rw [hks];rfl
        have u5:w10.cell? ⟨s,5,none⟩=some (.int .i64 X.S.r):=by rw [hks];rfl
        have u6:w10.cell? ⟨s,6,none⟩=some (.int .i64 X.S.h):=by rw [hks];rfl
        have u7:w10.cell? ⟨s,7,none⟩=some (.int .i64 X.S.b):=by rw [hks];rfl
        have u8:w10.cell? ⟨s,8,none⟩=some (.int .i64 X.S.l):=by rw [hks];rfl
        have u9:w10.cell? ⟨s,9,none⟩=some (.int .i64 X.S.s):=by rw [hks];rfl
        have u10:w10.cell? ⟨s,10,none⟩=some (.int .i64 X.S.f):=by rw [hks];rfl
        have u11:w10.cell? ⟨s,11,none⟩=some (.int .i64 X.pl):=by rw [hks];rfl
        have u12:w10.cell? ⟨s,12,none⟩=some (.slice aC X.C.length cC):=by rw [hks];rfl
        have fz:∀i,w10.frozen? ⟨s,i,none⟩=false:=fun i=>by unfold World.frozen?;rw [HW.out.2];simp
        have hplc:=fM c s X.pl w10.drew e0 u11 (by have h1:=HK.out.2.1;have h2:=HK.out.1.jv.p2;omega);clear hks hkc;obtain ⟨S1,hS1⟩:∃S1,sp1 X m a=S1:=⟨_,rfl⟩;rw [hS1] at t2 t3 t4 t5 t6 t7 t8 t9;have HS1:Hid (sp1 X m a=S1):=hS1;clear hS1
        have HFin:Hid (RunE w0 F0 s d p sp c aC cC X aS cS zs pl r T m a (.returned (.tuple #[])) (finW w10 s S1 X.pl aP (tkG m X.P).length cP)):=by
         have hS:=HS1.out;subst hS;obtain ⟨⟨lab',k1,k2⟩,k3⟩:=(HT9.out.base HB.out).fin HW.out.1 HW.out.2 (sp1 X m a) (1-pl) (by have h1:=HK.out.2.1;have h2:=HK.out.1.jv.p2;show (1:Int)-X.pl=_;omega);exact .inr (.inr (.inr ⟨HM.out,HZ.out,rfl,syncD D4,L4,HI8.out.1,HI8.out.2,q2,aP,cP,lab',k1,k2,k3⟩))
        unfold finW at HFin;clear HT9 HW HI8 HK HG;go_region_with (go_at_call 136;refine hplc.mono ?_;rintro e w' ⟨rfl,rfl⟩)
        all_goals (go_end0;rw [HA.out.1,HA.out.2];exact HFin.out)
       ·rw [hs4]
        have HF:Hid (RunE w0 F0 s d p sp c aC cC X aS cS zs pl r T m a (thrown 7) w8):=by
         obtain ⟨l,h8⟩:=HT8.out;exact .inr (.inr (.inl ⟨HM.out,rfl,syncD D4,L4,l,q1,q2,aP,cP,h8.base HB.out,HCF.out.2.1.sync,HCF.out.2.2.1.sync.mono (by have:=HM6.out.2;omega),HCF.out.2.2.1.mo.bad (bad_sync (by omega))⟩))
        clear HCF HT8 HM6;go_wp2_with (go_at_call 92;refine (check_no 7 (by decide) _).mono ?_;rintro e w' ⟨he,rfl⟩;unfold thrown at he;subst he)
        exact ⟨rfl,HF.out⟩
      ·rw [hs3]
       have HF:Hid (RunE w0 F0 s d p sp c aC cC X aS cS zs pl r T m a (thrown 7) w7):=by
        obtain ⟨l,h7⟩:=HT7.out;exact .inr (.inr (.inl ⟨HM.out,rfl,D4,L4,l,q1,q2,aP,cP,h7.base HB.out,HCF.out.2.1,HCF.out.2.2.1.mono (by have:=HM6.out.2;omega),by rw [<-HD4.out];exact HM6.out.1.mo.bad (UF (by omega) _ _)⟩))
       clear HCF HT7 HM6;go_wp2_with (go_at_call 92;refine (check_no 7 (by decide) _).mono ?_;rintro e w' ⟨he,rfl⟩;unfold thrown at he;subst he)
       exact ⟨rfl,HF.out⟩
     ·rw [hs]
      have HF:Hid (RunE w0 F0 s d p sp c aC cC X aS cS zs pl r T m a (thrown 7) w6):=by
       obtain ⟨l,h6⟩:=HT6.out;exact .inr (.inl ⟨HM.out,rfl,syncD D2,L2,l,q1,q2,aP,cP,h6.base HB.out,HM5.out.sync.mono (by have h1:=HPG.out.2.2;have h2:=HN.out;omega),HM5.out.mo.bad (bad_sync (by omega))⟩)
      clear HT6 HM5 hs;go_wp2_with (go_at_call 92;refine (check_no 7 (by decide) _).mono ?_;rintro e w' ⟨he,rfl⟩;unfold thrown at he;subst he)
      exact ⟨rfl,HF.out⟩
    ·have HF:Hid (RunE w0 F0 s d p sp c aC cC X aS cS zs pl r T m a (thrown 7) w5):=by
      obtain ⟨l,h5⟩:=HT5.out;exact .inr (.inl ⟨HM.out,rfl,D2,L2,l,q1,q2,aP,cP,h5.base HB.out,HM5.out.mono (by have h1:=HPG.out.2.2;have h2:=HN.out;omega),hbad⟩)
     clear HE5 hbad HT5 HM5;go_wp2_with (go_at_call 92;refine (check_no 7 (by decide) _).mono ?_;rintro e w' ⟨he,rfl⟩;unfold thrown at he;subst he)
     exact ⟨rfl,HF.out⟩
   ·have HF:Hid (RunE w0 F0 s d p sp c aC cC X aS cS zs pl r T m a (thrown 7) w4):=by
     obtain ⟨l,h4⟩:=HT4.out;exact .inr (.inl ⟨HM.out,rfl,D1,L1,l,q1,q2,aP,cP,h4.base HB.out,(puB_mid HK.out.1 HM.out hB).mono (by have:=HPG.out.2.2;omega),hB.bad⟩)
    clear HE4 hB HT4;go_wp2_with (go_at_call 92;refine (check_no 7 (by decide) _).mono ?_;rintro e w' ⟨he,rfl⟩;unfold thrown at he;subst he)
    exact ⟨rfl,HF.out⟩
  ·have HF:Hid (RunE w0 F0 s d p sp c aC cC X aS cS zs pl r T m a (thrown 6) w3):=.inl ⟨6,rfl,.inr ⟨rfl,hmc⟩,lab3,hC3.sto,hC3.lb.base HB.out,hC3.us,hC3.cm,hC3.lc⟩;clear HRo hC3;go_wp2_with (go_at_call 92;refine (check_no 6 (by decide) _).mono ?_;rintro e w' ⟨he,rfl⟩;unfold thrown at he;subst he)
   exact ⟨rfl,HF.out⟩
 ·rw [if_neg hz] at hcs;have HF:Hid (RunE w0 F0 s d p sp c aC cC X aS cS zs pl r T (ned zs.length+ned ((X.D.n+7)/8)) (ned zs.length) (thrown 3) w2):=.inl ⟨3,rfl,.inl ⟨rfl,by omega⟩,lab2,HC2.out.sto,HC2.out.lb.base HB.out,HC2.out.us,HC2.out.cm,HC2.out.lc⟩
  go_wp2_with (first
   |(go_at_call 130;refine hcs.mono ?_;rintro e w' ⟨rfl,rfl⟩;clear hcs g1)
   |(go_at_call 92;refine (check_no 3 (by decide) _).mono ?_;rintro e w' ⟨he,rfl⟩;unfold thrown at he;subst he))
  exact ⟨rfl,HF.out⟩
end
end Go.Proofs.YtaijfhadecennaaGreat.Oct.Sx
