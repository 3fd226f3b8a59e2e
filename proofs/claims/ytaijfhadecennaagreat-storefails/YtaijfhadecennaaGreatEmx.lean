/- Part of a proof. -/
import Derived.Test.YtaijfhadecennaaGreatEmk
set_option maxHeartbeats 4000000
namespace Go.Proofs.YtaijfhadecennaaGreat.Oct.Sx
open Go.RowKit
def StoO (w0 w:World) (F0:Nat->Prop) (s d:Nat) (X:St):Prop:=∃p sp aC cC lab,StoC w s d p sp aC cC lab X/\(∀k,lab k<=3->F0 k\/w0.heap.size<=k)/\Ch w0.heap.size F0 w0 w
theorem stoC_rel {w:World} {s d p sp cC:Nat} {aC:Option Addr} {lab lab':Nat->Nat} {X:St} (h:StoC w s d p sp aC cC lab X) (g:∀k,lab k<=3->lab' k=lab k):StoC w s d p sp aC cC lab' X:=by
 obtain ⟨F1,p1,p2⟩:=h.pool;obtain ⟨F2,q1,q2⟩:=h.space;have e0:=h.l0;exact ⟨h.cells,by rw [g s (by omega)];exact e0,⟨F1,p1,fun k hk=>by have:=p2 k hk;rw [g k (by omega)];exact this⟩,⟨F2,q1,fun k hk=>by have:=q2 k hk;rw [g k (by omega)];exact this⟩,h.ch,fun k hk=>by have:=h.lc k hk;rw [g k (by omega)];exact this⟩
theorem StoO.out {w0 w:World} {F0:Nat->Prop} {s d:Nat} {X:St} (h:StoO w0 w F0 s d X):∃F',Sto w s d F' X/\Step F0 F' w0 w:=by
 obtain ⟨p,sp,aC,cC,lab,h1,h2,h3⟩:=h;have hlt:∀k,lab k<=3->True:=fun _ _=>trivial
 let lab':Nat->Nat:=fun k=>if k<w.heap.size then lab k else 10
 obtain ⟨F1,p1,p2⟩:=h1.pool;obtain ⟨F2,q1,q2⟩:=h1.space;have l1:=p1.lt;have l2:=JA q1;have hl:=h1.lt;have hcl:∀k,obl aC k->k<w.heap.size:=fun k hk=>(World.ownsRow.lt h1.ch k (zI hk)).2
 have e:∀k,k<w.heap.size->lab' k=lab k:=fun k hk=>if_pos hk
 have hs:StoC w s d p sp aC cC lab' X:=⟨h1.cells,by rw [e s hl];exact h1.l0,⟨F1,p1,fun k hk=>by rw [e k (l1 k hk)];exact p2 k hk⟩,⟨F2,q1,fun k hk=>by rw [e k (l2 k hk)];exact q2 k hk⟩,h1.ch,fun k hk=>by rw [e k (hcl k hk)];exact h1.lc k hk⟩
 have hlo:∀k,lab' k<=3->k<w.heap.size/\lab k<=3:=fun k hk=>by
  by_cases hk2:k<w.heap.size
  ·rw [e k hk2] at hk;exact ⟨hk2,hk⟩
  ·have:lab' k=10:=if_neg hk2;omega
 exact ⟨fun k=>lab' k<=3,⟨p,sp,aC,cC,lab',hs,fun k hk=>hk,fun k hk=>(hlo k hk).1⟩,h3,fun k hk=>h2 k (hlo k hk).2⟩
theorem Aft.refl (D:Dv) (L:List Fr) (pgs:List Int) (c:Nat):Aft D L pgs c D L:=⟨rfl,Mo.refl D,⟨by omega,by omega⟩,fun _ _ _ _ _ h=>h⟩
theorem StoC.toO {w0 w:World} {F0:Nat->Prop} {s d p sp cC:Nat} {aC:Option Addr} {lab:Nat->Nat} {X:St} (h:StoC w s d p sp aC cC lab X) (h0:LbC w0 w F0 lab):StoO w0 w F0 s d X:=⟨p,sp,aC,cC,lab,h,fun k hk=>h0.old k (by omega),h0.ch⟩
theorem row_in {w:World} {a:Option Addr} {c:Nat} {zs:List Int} (h:Row w a c zs):zs=[]\/∃x,a=some x:=by
 rcases h.2.2.2 with e|⟨b,off,e,_⟩
 ·exact .inl e
 ·exact .inr ⟨_,e⟩
end Go.Proofs.YtaijfhadecennaaGreat.Oct.Sx
namespace Go.Proofs.YtaijfhadecennaaGreat.Oct.Sx
open Go.RowKit
def fgA (L:List Fr) (l:List Int):List Fr:=l.foldl fgL L
theorem fgA_snoc (L:List Fr) (l:List Int) (z:Int):fgA L (l++[z])=fgL (fgA L l) z:=by unfold fgA;rw [List.foldl_append];rfl
theorem fgA_fi {D:Dv} {N:Nat}:∀(l:List Int) {L:List Fr},FI D N L->(∀z∈l,0<=z)->FI D N (fgA L l)/\(∀k,DP (fgA L l) k->DP L k/\¬(k:Int)∈l)/\∀(k:Nat) b,¬(k:Int)∈l->Tl D L k b->Tl D (fgA L l) k b
 |[],L,h,_=>⟨h,fun k hk=>⟨hk,by simp⟩,fun _ _ _ ht=>ht⟩
 |z::l,L,h,hz=>by
  obtain ⟨n,rfl⟩:∃n:Nat,z=(n:Int):=⟨z.toNat,(qF (hz z (by simp))).symm⟩;obtain ⟨f1,f2,f3,_⟩:=h.forget n rfl;obtain ⟨g1,g2,g3⟩:=fgA_fi l f1 (fun y hy=>hz y (jM _ hy));refine ⟨g1,fun k hk=>?_,fun k b hk ht=>?_⟩
  ·obtain ⟨a,b⟩:=g2 k hk;obtain ⟨c,d⟩:=f3 k a;refine ⟨c,fun e=>?_⟩;rcases List.mem_cons.1 e with e|e
   ·exact d (by omega)
   ·exact b e
  ·exact g3 k b (fun e=>hk (jM _ e)) (f2 k b (fun e=>hk (by rw [e];simp)) ht)
section
variable {X:St} {pl c m:Nat} {r:Rp} {T:List (Sp × Rp)} {D':Dv} {L':List Fr}
theorem mid_back (h:In X.D X.N X.L X.P X.S pl X.C X.g r T) (hm:Mid X.D X.L X.N X.S pl r T (tkG m X.P) c D' L') (hok:CtOk (tkG m X.P)):In D' X.N (fgA L' (tkG m X.P)) X.P X.S pl X.C X.g r T/\Aft X.D X.L (tkG m X.P) c D' (fgA L' (tkG m X.P)):=by
 obtain ⟨f1,f2,f3⟩:=fgA_fi (tkG m X.P) hm.fi (fun z hz=>by have:=yW hok z hz;omega);have hn:=hm.n;exact ⟨⟨hm.jv,f1,fun k hk=>(f2 k hk).2 (hm.dp k (f2 k hk).1),by rw [hn];exact h.pi,h.rc,fun y hy z hz=>by rw [hn];exact h.tc y hy z hz,h.gs,h.gt,by rw [hn];exact h.sp⟩,hm.n,hm.mo,hm.ops,fun k b hk h2 hx ht=>f3 k b hx (hm.tl k b hk h2 hx ht)⟩
theorem in_back {S1:Sp} {r1:Rp} {P':List Int} {g:Int} (h:In D' X.N L' P' X.S pl X.C g r ((S1,r1)::T)) (ha:Aft X.D X.L (tkG m X.P) c D' L') (hok:CtOk (tkG m X.P)):In D' X.N (fgA L' (tkG m X.P)) P' X.S pl X.C g r ((S1,r1)::T)/\Aft X.D X.L (tkG m X.P) c D' (fgA L' (tkG m X.P)):=by
 obtain ⟨f1,f2,f3⟩:=fgA_fi (tkG m X.P) h.fi (fun z hz=>by have:=yW hok z hz;omega);exact ⟨h.frames f1 (fun k hk=>h.nd k (f2 k hk).1),ha.n,ha.mo,ha.ops,fun k b hk h2 hx ht=>f3 k b hx (ha.tl k b hk h2 hx ht)⟩
end
end Go.Proofs.YtaijfhadecennaaGreat.Oct.Sx
namespace Go.Proofs.YtaijfhadecennaaGreat.Oct.Sx
open Go.RowKit
section
variable {w0 w w':World} {F0:Nat->Prop} {s d p sp c cC cS:Nat} {aC aS:Option Addr} {X:St} {zs:List Int} {lab lab':Nat->Nat} {S:Sp} {q1 q2 cP:Nat} {P1 P2 pgs:List Int} {gp:Nat}
set_option maxRecDepth 20000 in
theorem fail_no (h:CmT w0 w F0 s d p sp c aC cC lab X aS cS zs S false q1 P1 q2 P2 (some ⟨gp,0,none⟩) cP pgs) (hz:∀z∈pgs,0<=z/\z<=4096) (hl:pgs.length<=4096):
  Calls Tryz.prog 83 #[.pointer (some ⟨c,0,none⟩)] w fun e w'=>e=.returned (.tuple #[])/\∃lab,CmT w0 w' F0 s d p sp c aC cC lab {X with L:=fgA X.L pgs} aS cS zs S false q1 P1 q2 P2 (some ⟨gp,0,none⟩) cP pgs:=by
 obtain ⟨c0,_,c10,_⟩:=h.cm.at;obtain ⟨n,hn⟩:∃n,pgs.length=n:=⟨_,rfl⟩;have HN:Hid (pgs.length=n/\∀z∈pgs,0<=z/\z<=4096):=⟨hn,hz⟩;have H0:Hid (CmT w0 w F0 s d p sp c aC cC lab X aS cS zs S false q1 P1 q2 P2 (some ⟨gp,0,none⟩) cP pgs):=h;rw [hn] at hl c10;clear h hz hn;go_enter Tryz.func83,Tryz.ntmps83
 go_wp2_with fail
 go_loopg [14] n (fun gh i wr=>∃k:Nat,k<=n/\gh=n-k/\i=.int .i64 (k:Int)/\Hid (∃lab,CmT w0 wr F0 s d p sp c aC cC lab {X with L:=fgA X.L (pgs.take k)} aS cS zs S false q1 P1 q2 P2 (some ⟨gp,0,none⟩) cP pgs))
 case atStart=>exact ⟨0,jT _,rfl,rfl,lab,H0.out⟩
 case round=>
  clear H0;obtain ⟨k,hk,hgk,rfl,HI⟩:=hrel;have HGK:Hid (gk=n-k):=hgk;clear hgk;obtain ⟨labr,hT⟩:=HI.out;by_cases hlt:k<n
  ·have hkp:k<pgs.length:=by rw [HN.out.1];exact hlt
   have hcell:=hT.pg.cellI rfl k hkp;have s1:=hT.cm.sto.at.2.1;obtain ⟨F1,hp1,hF1⟩:=hT.cm.sto.pool;obtain ⟨z,hz⟩:∃z,pgs.getD k 0=z:=⟨_,rfl⟩;rw [hz] at hcell;have hzm:0<=z/\z<=4096:=HN.out.2 z (by rw [<-hz];exact zD hkp);have hfg:=ZQ hp1 z (by simp [Lit.wf,IntKind.min,IntKind.max,IntKind.signed,IntKind.bits];omega)
   have HZ:Hid (fgA X.L (pgs.take (k+1))=fgL (fgA X.L (pgs.take k)) z):=by
    show _=_;rw [xM,<-hz,jA,jC hkp];exact fgA_snoc ..
   have HT:Hid (CmT w0 wr F0 s d p sp c aC cC labr {X with L:=fgA X.L (pgs.take k)} aS cS zs S false q1 P1 q2 P2 (some ⟨gp,0,none⟩) cP pgs/\(∀k,F1 k->labr k=1)/\∀k,F1 k->k<wr.heap.size):=⟨hT,hF1,hp1.lt⟩;clear hT hp1 hF1 hz HI;go_wp2_with (go_at_call 137;refine hfg.mono ?_;rintro e w1 ⟨rfl,hp2,hc2⟩;have H1:Hid (∃lab,CmT w0 w1 F0 s d p sp c aC cC lab {X with L:=fgA X.L (pgs.take (k+1))} aS cS zs S false q1 P1 q2 P2 (some ⟨gp,0,none⟩) cP pgs):=⟨_,by rw [HZ.out];exact HT.out.1.pool HT.out.2.1 HT.out.2.2 hp2 (Step.of hc2)⟩;clear hfg hp2 hc2)
   go_roundg (n-(k+1))
   case rel=>exact ⟨k+1,by omega,rfl,by go_num,H1.out⟩
   case measure=>have:=HGK.out;omega
  ·obtain rfl:k=n:=by omega
   have HE:Hid (∃lab,CmT w0 wr F0 s d p sp c aC cC lab {X with L:=fgA X.L pgs} aS cS zs S false q1 P1 q2 P2 (some ⟨gp,0,none⟩) cP pgs):=by
    rw [qR (by rw [HN.out.1];exact jB _)] at hT;exact ⟨labr,hT⟩
   have x13:=hT.cm.at.2.2.2.2.2;clear HI hT;go_wp2_with fail
   refine bodyPost_ret (results_none rfl _ _ _) rfl ?_;exact ⟨rfl,HE.out⟩
end
end Go.Proofs.YtaijfhadecennaaGreat.Oct.Sx
namespace Go.Proofs.YtaijfhadecennaaGreat.Oct.Sx
open Go.RowKit
section
variable {w0 w w':World} {F0:Nat->Prop} {s d p sp c cC cS:Nat} {aC aS:Option Addr} {X:St} {zs:List Int} {lab lab':Nat->Nat} {S:Sp} {q1 q2 cP:Nat} {P1 P2 pgs:List Int} {gp:Nat}
theorem CmT.taken {bg:Bool} {aP:Option Addr} (h:CmT w0 w F0 s d p sp c aC cC lab X aS cS zs S bg q1 P1 q2 P2 aP cP pgs) {F F':Nat->Prop} {P':List Int} (hF:∀k,F k->lab k=5) (hl:∀k,F k->k<w.heap.size) (hp:Sps.Spa w' q1 F' P') (st:Step F F' w w'):CmT w0 w' F0 s d p sp c aC cC (relab lab w.heap.size 5) X aS cS zs S bg q1 P' q2 P2 aP cP pgs:=by
 have t:=Trn.of st hF;exact ⟨h.cm.keep (by decide) (by decide) t (Agr.relab _ 5 _),⟨F',hp,Trn.foot st hF hl⟩,h.bh.keep t (by decide) (Agr.relab _ 5 _),h.pg.keep t (by decide) (Agr.relab _ 5 _)⟩
theorem CmT.moveT {bg:Bool} {aP:Option Addr} (h:CmT w0 w F0 s d p sp c aC cC lab X aS cS zs S bg q1 P1 q2 P2 aP cP pgs) (hc:Ch w.heap.size (fun k=>k=s) w w') (hb:w'.heap[s]?=some (.cells (stC d p q1 X.S X.pl (.slice aC X.C.length cC) X.g) 81 (0,0))):
  (∃lab',StoC w' s d p q1 aC cC lab' {X with P:=P1}/\∀k,lab' k<=3->F0 k\/w0.heap.size<=k)/\Ch w0.heap.size F0 w0 w':=by
 have hl0:=h.cm.sto.l0;have t:Trn lab 0 w w':=Trn.ch hc (fun k hk=>by rw [hk];exact hl0);obtain ⟨F1,p1,p2⟩:=h.cm.sto.pool;obtain ⟨F2,b1,b2⟩:=h.tk;have l1:=p1.lt;have l2:=JA b1;have lr:∀k,obl aC k->k<w.heap.size:=fun k hk=>(World.ownsRow.lt h.cm.sto.ch k (zI hk)).2
 refine ⟨⟨labM lab 5 3,⟨hb,?_,⟨F1,p1.keep t.size (fun k hk=>t.block (l1 k hk) (by rw [p2 k hk];decide)),fun k hk=>?_⟩,⟨F2,zH b1 t.size (fun k hk=>t.block (l2 k hk) (by rw [b2 k hk];decide)),fun k hk=>?_⟩,OwnI.keepO h.cm.sto.ch (fun k hk=>t.block (lr k hk) (by rw [h.cm.sto.lc k hk];decide)),fun k hk=>?_⟩,fun k hk=>h.cm.lb.old k ?_⟩,(h.cm.lb.turn t (by decide) (fun _ _=>rfl)).ch⟩
 ·unfold labM;rw [hl0];rfl
 ·unfold labM;rw [p2 k hk];rfl
 ·unfold labM;rw [b2 k hk];rfl
 ·unfold labM;rw [h.cm.sto.lc k hk];rfl
 ·unfold labM at hk;by_cases h9:lab k<=9
  ·exact h9
  ·rw [if_neg (by omega),if_neg (by omega),if_neg (by omega)] at hk;omega
set_option maxRecDepth 20000 in
theorem fail_yes (h:CmT w0 w F0 s d p sp c aC cC lab X aS cS zs S true q1 P1 q2 P2 (some ⟨gp,0,none⟩) cP pgs) (hz:∀z∈pgs,0<=z/\z<=4096) (hl:pgs.length<=4096):
  Calls Tryz.prog 83 #[.pointer (some ⟨c,0,none⟩)] w fun e w'=>e=.returned (.tuple #[])/\(∃lab',StoC w' s d p q1 aC cC lab' {X with L:=fgA X.L pgs,P:=gvA (trS 1 3 P1) pgs}/\∀k,lab' k<=3->F0 k\/w0.heap.size<=k)/\Ch w0.heap.size F0 w0 w':=by
 obtain ⟨c0,_,c10,_⟩:=h.cm.at;obtain ⟨n,hn⟩:∃n,pgs.length=n:=⟨_,rfl⟩;have HN:Hid (pgs.length=n/\∀z∈pgs,0<=z/\z<=4096):=⟨hn,hz⟩;have H0:Hid (CmT w0 w F0 s d p sp c aC cC lab X aS cS zs S true q1 P1 q2 P2 (some ⟨gp,0,none⟩) cP pgs):=h;rw [hn] at hl c10;clear h hz hn;go_enter Tryz.func83,Tryz.ntmps83
 go_wp2_with fail
 go_loopg [14] n (fun gh i wr=>∃k:Nat,k<=n/\gh=n-k/\i=.int .i64 (k:Int)/\Hid (∃lab,CmT w0 wr F0 s d p sp c aC cC lab {X with L:=fgA X.L (pgs.take k)} aS cS zs S true q1 P1 q2 P2 (some ⟨gp,0,none⟩) cP pgs))
 case atStart=>exact ⟨0,jT _,rfl,rfl,lab,H0.out⟩
 case round=>
  clear H0;obtain ⟨k,hk,hgk,rfl,HI⟩:=hrel;have HGK:Hid (gk=n-k):=hgk;clear hgk;obtain ⟨labr,hT⟩:=HI.out;by_cases hlt:k<n
  ·have hkp:k<pgs.length:=by rw [HN.out.1];exact hlt
   have hcell:=hT.pg.cellI rfl k hkp;have s1:=hT.cm.sto.at.2.1;obtain ⟨F1,hp1,hF1⟩:=hT.cm.sto.pool;obtain ⟨z,hz⟩:∃z,pgs.getD k 0=z:=⟨_,rfl⟩;rw [hz] at hcell;have hzm:0<=z/\z<=4096:=HN.out.2 z (by rw [<-hz];exact zD hkp);have hfg:=ZQ hp1 z (by simp [Lit.wf,IntKind.min,IntKind.max,IntKind.signed,IntKind.bits];omega)
   have HZ:Hid (fgA X.L (pgs.take (k+1))=fgL (fgA X.L (pgs.take k)) z):=by
    show _=_;rw [xM,<-hz,jA,jC hkp];exact fgA_snoc ..
   have HT:Hid (CmT w0 wr F0 s d p sp c aC cC labr {X with L:=fgA X.L (pgs.take k)} aS cS zs S true q1 P1 q2 P2 (some ⟨gp,0,none⟩) cP pgs/\(∀k,F1 k->labr k=1)/\∀k,F1 k->k<wr.heap.size):=⟨hT,hF1,hp1.lt⟩;clear hT hp1 hF1 hz HI;go_wp2_with (go_at_call 137;refine hfg.mono ?_;rintro e w1 ⟨rfl,hp2,hc2⟩;have H1:Hid (∃lab,CmT w0 w1 F0 s d p sp c aC cC lab {X with L:=fgA X.L (pgs.take (k+1))} aS cS zs S true q1 P1 q2 P2 (some ⟨gp,0,none⟩) cP pgs):=⟨_,by rw [HZ.out];exact HT.out.1.pool HT.out.2.1 HT.out.2.2 hp2 (Step.of hc2)⟩;clear hfg hp2 hc2)
   go_roundg (n-(k+1))
   case rel=>exact ⟨k+1,by omega,rfl,by go_num,H1.out⟩
   case measure=>have:=HGK.out;omega
  ·obtain rfl:k=n:=by omega
   have HE:Hid (∃lab,CmT w0 wr F0 s d p sp c aC cC lab {X with L:=fgA X.L pgs} aS cS zs S true q1 P1 q2 P2 (some ⟨gp,0,none⟩) cP pgs):=by
    rw [qR (by rw [HN.out.1];exact jB _)] at hT;exact ⟨labr,hT⟩
   have x13:=hT.cm.at.2.2.2.2.2;obtain ⟨lab4,hT4⟩:=HE.out;have x11:=hT4.cm.at.2.2.2.1;obtain ⟨F4,ht4,hF4⟩:=hT4.tk;have hdb:=Sps.doubt_any ht4;have HT4:Hid (CmT w0 wr F0 s d p sp c aC cC lab4 {X with L:=fgA X.L pgs} aS cS zs S true q1 P1 q2 P2 (some ⟨gp,0,none⟩) cP pgs/\(∀k,F4 k->lab4 k=5)/\∀k,F4 k->k<wr.heap.size):=⟨hT4,hF4,JA ht4⟩;clear HI hT hT4 ht4 hF4 HE;go_wp2_with (go_at_call 138;refine hdb.mono ?_;rintro e w5 ⟨rfl,F5,h5,st5⟩;have H5:Hid (∃lab,CmT w0 w5 F0 s d p sp c aC cC lab {X with L:=fgA X.L pgs} aS cS zs S true q1 (trS 1 3 P1) q2 P2 (some ⟨gp,0,none⟩) cP pgs):=⟨_,HT4.out.1.taken HT4.out.2.1 HT4.out.2.2 h5 st5⟩;clear hdb h5 st5 HT4)
   obtain ⟨lab5,hT5⟩:=H5.out;have y11:=hT5.cm.at.2.2.2.1;have y10:=hT5.cm.at.2.2.1;rw [HN.out.1] at y10;obtain ⟨F6,hs6,hl6⟩:=hT5.tk
   have hrw:RowI w5.drew (some ⟨gp,0,none⟩) cP pgs:=by
    obtain ⟨a',c',e,hr⟩:=hT5.pg.1.row;simp only [Value.slice.injEq,true_and] at e;obtain ⟨rfl,rfl⟩:=e;exact hr
   have hs6':Sps.Spa w5.drew q1 F6 (trS 1 3 P1):=zH hs6 (jB _) (fun _ _=>rfl);have hga:=YM hs6' (some ⟨gp,0,none⟩) cP pgs.length pgs hrw rfl HN.out.2 (fun k hk=>⟨(World.ownsRow.lt hT5.pg.1 k (zI hk)).2,fun e=>by have h1:=hl6 k e;have h2:=hT5.pg.2 k hk;omega⟩);rw [HN.out.1] at hga;have HT5:Hid (CmT w0 w5 F0 s d p sp c aC cC lab5 {X with L:=fgA X.L pgs} aS cS zs S true q1 (trS 1 3 P1) q2 P2 (some ⟨gp,0,none⟩) cP pgs/\(∀k,F6 k->lab5 k=5)/\∀k,F6 k->k<w5.heap.size):=⟨hT5,hl6,JA hs6⟩;clear hT5 H5 hs6 hs6' hl6 hrw x11 x13
   go_region_held3 (fun w'=>w'.cell? ⟨c,11,none⟩=some (.pointer (some ⟨q1,0,none⟩))/\w'.cell? ⟨c,10,none⟩=some (.slice (some ⟨gp,0,none⟩) k cP)) (first|go_keep|exact ⟨by assumption,by assumption⟩) (first
    |(go_at_call 72;refine hga.mono ?_;rintro e w7 ⟨rfl,F7,h7,st7'⟩
      have H7:Hid (∃lab,CmT w0 w7 F0 s d p sp c aC cC lab {X with L:=fgA X.L pgs} aS cS zs S true q1 (gvA (trS 1 3 P1) pgs) q2 P2 (some ⟨gp,0,none⟩) cP pgs):=⟨_,HT5.out.1.taken HT5.out.2.1 HT5.out.2.2 h7 st7'.undrew⟩
      obtain ⟨z11,z10⟩:w7.cell? ⟨c,11,none⟩=some (.pointer (some ⟨q1,0,none⟩))/\w7.cell? ⟨c,10,none⟩=some (.slice (some ⟨gp,0,none⟩) k cP):=by
       obtain ⟨l,hl⟩:=H7.out;have h1:=hl.cm.at;rw [HN.out.1] at h1;exact ⟨h1.2.2.2.1,h1.2.2.1⟩
      clear hga h7 st7'))
   obtain ⟨lab7,hT7⟩:=H7.out;have hst:=settle_any s q1 _ w7 hT7.cm.sto.cells rfl;have HT7:Hid _:=hT7;clear hT7 H7 y11 y10 HT5;go_wp2_with (go_at_call 135;refine hst.mono ?_;rintro e w8 ⟨rfl,hw8⟩;have HW:Hid _:=hw8;clear hst hw8)
   have HF:Hid ((∃lab',StoC w8 s d p q1 aC cC lab' {X with L:=fgA X.L pgs,P:=gvA (trS 1 3 P1) pgs}/\∀k,lab' k<=3->F0 k\/w0.heap.size<=k)/\Ch w0.heap.size F0 w0 w8):=by
    have hw8:=HW.out;refine HT7.out.moveT ?_ ?_
    ·rw [hw8];exact (((Ch.refl w7.heap.size (fun k=>k=s) w7).setCell (p:=⟨s,2,none⟩) (.inr rfl) _).setCell (p:=⟨s,14,none⟩) (.inr rfl) _).setCell (p:=⟨s,15,none⟩) (.inr rfl) _
    ·rw [hw8,yO _ _ _ _ _ _ _ (yO _ _ _ _ _ _ _ (yO _ _ _ _ _ _ _ HT7.out.cm.sto.cells))];rfl
   clear HW HT7;go_end0
   exact ⟨rfl,HF.out⟩
end
end Go.Proofs.YtaijfhadecennaaGreat.Oct.Sx
