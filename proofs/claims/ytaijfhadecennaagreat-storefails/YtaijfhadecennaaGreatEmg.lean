/- Part of a proof. -/
import Derived.Test.YtaijfhadecennaaGreatEme
import Derived.Test.YtaijfhadecennaaGreatKd
import Derived.Test.YtaijfhadecennaaGreatKt
open Go.Proofs.Tryz
set_option maxHeartbeats 4000000
namespace Go.Proofs.YtaijfhadecennaaGreat.Oct.Sx
open Go.RowKit
theorem PgL.keepB {base:Nat} {w w':World} {v:Value} {L:List (List Int)} (h:PgL base w v L) (k:∀g,base<=g->g<w.heap.size->w'.heap[g]?=w.heap[g]?):PgL base w' v L:=by
 obtain ⟨vs,h1,h2⟩:=h;refine ⟨vs,yQ h1 (fun g hg=>by have:=World.ownsRow.lt h1 g hg;exact k g this.1 this.2),fun i hi=>?_⟩;obtain ⟨g,c,e,ho,hn⟩:=h2 i hi;exact ⟨g,c,e,yQ ho (fun x hx=>by have:=World.ownsRow.lt ho x hx;exact k x this.1 this.2),hn⟩
theorem PgL.atB {base:Nat} {w:World} {v:Value} {L:List (List Int)} (h:PgL base w v L) (i:Nat) (hi:i<L.length):
  ∃q cap g c,v=.slice (some ⟨q,0,none⟩) L.length cap/\(base<=q/\q<w.heap.size)/\w.cell? ⟨q,i,none⟩=some (.slice (some ⟨g,0,none⟩) (L.getD i []).length c)/\Own base w (.slice (some ⟨g,0,none⟩) (L.getD i []).length c) (L.getD i []):=by
 obtain ⟨q,cap,g,c,hv,_,_,h3,h4,_⟩:=h.at i hi;obtain ⟨vs,h1,_⟩:=h;exact ⟨q,cap,g,c,hv,World.ownsRow.lt h1 q (by rw [hv];rfl),h3,h4⟩
theorem ctL_at (zs pg:List Int) (i:Nat) (hi:i<pg.length):(ctL zs pg).getD i []=sealL (cpg zs pg i):=by
 unfold ctL;rw [jA,qH,List.getElem?_range hi];rfl
theorem ctE_ok {zs pg:List Int} (h1:pg.length=ned zs.length) (h2:CtOk pg) (h3:zs.length<=1048576):ctE zs pg=0:=by
 unfold ctE;rw [if_pos h1,if_pos (ctB_iff.2 h2),if_pos h3]
section
variable {w0 w w':World} {F0:Nat->Prop} {s d p sp c cC cS:Nat} {aC aS:Option Addr} {X:St} {zs:List Int} {lab lab':Nat->Nat} {S:Sp} {vC vT vB:Value} {bg:Bool} {q1 q2 cP:Nat} {P1 P2 pgs:List Int} {aP:Option Addr}
theorem CmC.pool (h:CmC w0 w F0 s d p sp c aC cC lab X aS cS zs S vC vT vB bg) {F F':Nat->Prop} {D':Dv} {L':List Fr} (hF:∀k,F k->lab k=1) (hl:∀k,F k->k<w.heap.size) (hp:Pool w' p d F' D' X.N L') (st:Step F F' w w'):
  CmC w0 w' F0 s d p sp c aC cC (relab lab w.heap.size 1) {X with D:=D',L:=L'} aS cS zs S vC vT vB bg:=by
 have t:=Trn.of st hF;have hlc:=yR h.cm;exact ⟨h.sto.pool' hF hl hp st,h.lb.turn t (by decide) (Agr.relab _ 1 _),h.us.keep t (by decide) (Agr.relab _ 1 _),(t.block hlc (by rw [h.lc];decide)).trans h.cm,by rw [zB hlc];exact h.lc⟩
theorem CmT.pool (h:CmT w0 w F0 s d p sp c aC cC lab X aS cS zs S bg q1 P1 q2 P2 aP cP pgs) {F F':Nat->Prop} {D':Dv} {L':List Fr} (hF:∀k,F k->lab k=1) (hl:∀k,F k->k<w.heap.size) (hp:Pool w' p d F' D' X.N L') (st:Step F F' w w'):
  CmT w0 w' F0 s d p sp c aC cC (relab lab w.heap.size 1) {X with D:=D',L:=L'} aS cS zs S bg q1 P1 q2 P2 aP cP pgs:=by
 have t:=Trn.of st hF;exact ⟨h.cm.pool hF hl hp st,h.tk.keep t (by decide) (Agr.relab _ 1 _),h.bh.keep t (by decide) (Agr.relab _ 1 _),h.pg.keep t (by decide) (Agr.relab _ 1 _)⟩
theorem CmT.keep (h:CmT w0 w F0 s d p sp c aC cC lab X aS cS zs S bg q1 P1 q2 P2 aP cP pgs) {i:Nat} (h8:8<=i) (h9:i<=9) (t:Trn lab i w w') (g:Agr w.heap.size lab lab'):CmT w0 w' F0 s d p sp c aC cC lab' X aS cS zs S bg q1 P1 q2 P2 aP cP pgs:=
 ⟨h.cm.keep (by omega) h9 t g,h.tk.keep t (by omega) g,h.bh.keep t (by omega) g,h.pg.keep t (by omega) g⟩
theorem RowL.cellI {gp n c i:Nat} {zs:List Int} (h:RowL w (some ⟨gp,0,none⟩) n c zs lab i) (hn:zs.length=n) (k:Nat) (hk:k<zs.length):w.cell? ⟨gp,k,none⟩=some (.int .i64 (zs.getD k 0)):=by
 subst hn;obtain ⟨a',c',e,hr⟩:=h.1.row;simp only [Value.slice.injEq,true_and] at e;obtain ⟨rfl,rfl⟩:=e;obtain ⟨b',off',e2,hc⟩:=hr.at' k hk;simp only [jQ,Addr.mk.injEq,and_true] at e2;obtain ⟨rfl,rfl⟩:=e2;rw [qT] at hc;exact hc
theorem pool_n {d N:Nat} {F:Nat->Prop} {D:Dv} {L:List Fr} (h:Pool w p d F D N L):8<=N/\N<=4096:=by
 obtain ⟨Fd,m,e,bs,fr,ol,nw,h,rfl⟩:=h;exact ⟨h.pool.n8,h.pool.n4⟩
def PtI (w0 w w1 wr:World) (F0:Nat->Prop) (s d p sp c:Nat) (aC:Option Addr) (cC:Nat) (X:St) (aS:Option Addr) (cS:Nat) (zs:List Int) (S:Sp) (bg:Bool) (q1:Nat) (P1:List Int) (q2:Nat) (P2:List Int) (aP:Option Addr) (cP:Nat) (pgs:List Int) (D':Dv) (L':List Fr):Prop:=
 ∃labr,CmT w0 wr F0 s d p sp c aC cC labr {X with D:=D',L:=L'} aS cS zs S bg q1 P1 q2 P2 aP cP pgs/\∀j,w.heap.size<=j->j<w1.heap.size->wr.heap[j]?=w1.heap[j]?/\labr j=9
def PutE (w0:World) (F0:Nat->Prop) (s d p sp c:Nat) (aC:Option Addr) (cC:Nat) (X:St) (aS:Option Addr) (cS:Nat) (zs:List Int) (S:Sp) (bg:Bool) (q1:Nat) (P1:List Int) (q2:Nat) (P2:List Int) (aP:Option Addr) (cP:Nat) (pgs bz pz:List Int) (Q:Nat->Prop) (e:Ending) (w':World):Prop:=
 ∃D' L',(∃lab,CmT w0 w' F0 s d p sp c aC cC lab {X with D:=D',L:=L'} aS cS zs S bg q1 P1 q2 P2 aP cP pgs)/\
  ((e=.returned (.int .i64 0)/\PutI X.N X.D X.L pz (ctL bz pz) Q pz.length D' L')\/
   (e=.returned (.int .i64 7)/\Bad X.D D'/\FI D' X.N L'/\(∃n,n<=pz.length/\Acts Q n X.D D')/\(∀k,DP L' k->DP X.L k\/∃j,j<pz.length/\pz.getD j 0=(k:Int))/\∀k b,k<X.D.n->(∀j,j<pz.length->pz.getD j 0≠(k:Int))->Tl X.D X.L k b->Tl D' L' k b))
theorem ptI_step {w1 wr w2:World} {labr:Nat->Nat} {D' D2:Dv} {L' L2:List Fr} {F1 F2:Nat->Prop} (hT:CmT w0 wr F0 s d p sp c aC cC labr {X with D:=D',L:=L'} aS cS zs S bg q1 P1 q2 P2 aP cP pgs) (hold:∀j,w.heap.size<=j->j<w1.heap.size->wr.heap[j]?=w1.heap[j]?/\labr j=9)
  (hF:∀k,F1 k->labr k=1) (hl:∀k,F1 k->k<wr.heap.size) (hp:Pool w2 p d F2 D2 X.N L2) (st:Step F1 F2 wr w2):PtI w0 w w1 w2 F0 s d p sp c aC cC X aS cS zs S bg q1 P1 q2 P2 aP cP pgs D2 L2:=by
 refine ⟨_,hT.pool hF hl hp st,fun j h1 h2=>?_⟩;obtain ⟨e1,e2⟩:=hold j h1 h2;have hlt:j<wr.heap.size:=yR (e1.trans (xD h2));exact ⟨(st.1.block j hlt (fun e=>by have:=hF j e;omega)).trans e1,by rw [zB hlt];exact e2⟩
set_option maxRecDepth 20000 in
theorem put_any (h:CmT w0 w F0 s d p sp c aC cC lab X aS cS zs S bg q1 P1 q2 P2 aP cP pgs) (ab:Option Addr) (cb:Nat) (bz:List Int) (hb:Row w ab cb bz) (hbl:bz.length<=1000000) (hbb:Bys bz)
  (gp o cp:Nat) (pz:List Int) (haP:aP=some ⟨gp,0,none⟩) (hcp:pz.length<=cp/\cp<=maxLen) (hwin:∀i,i<pz.length->pgs.getD (o+i) 0=pz.getD i 0/\o+i<pgs.length) (hpo:CtOk pz) (hpl:pz.length=ned bz.length) (hpn:∀z∈pz,z<(X.D.n:Int)) (fi:FI X.D X.N X.L) {Q:Nat->Prop} (hQ:∀k,DP X.L k->Q k) (hQp:∀z∈pz,Q z.toNat) (hops:X.D.ops+5000<=1000000000) (hsi:X.D.since.length+5000<=1000000):
  Calls prog 177 #[.pointer (some ⟨c,0,none⟩),.slice ab bz.length cb,.slice (some ⟨gp,o,none⟩) pz.length cp] w (PutE w0 F0 s d p sp c aC cC X aS cS zs S bg q1 P1 q2 P2 aP cP pgs bz pz Q):=by
 have hE0:=ctE_ok hpl hpo (by omega)
 have hpr:RowI w (some ⟨gp,o,none⟩) cp pz:=⟨hcp.1,hcp.2,.inr ⟨gp,o,rfl,fun i hi=>by
  have h2:=h.pg;rw [haP] at h2;rw [h2.cellI rfl (o+i) (hwin i hi).2,(hwin i hi).1]⟩⟩
 have hct:=Chs.Cut_v ab cb bz (some ⟨gp,o,none⟩) cp pz w hb hpr hbl;have hcp2:=hcp.2;have hcp1:=hcp.1;unfold maxLen at hcp2;have HK:Hid ((∀i,i<pz.length->pgs.getD (o+i) 0=pz.getD i 0/\o+i<pgs.length)/\CtOk pz/\(∀z∈pz,z<(X.D.n:Int))/\Bys bz/\(∀k,DP X.L k->Q k)/\(∀z∈pz,Q z.toNat)/\X.D.ops+5000<=1000000000/\X.D.since.length+5000<=1000000/\aP=some ⟨gp,0,none⟩/\pz.length<=4300/\FI X.D X.N X.L):=⟨hwin,hpo,hpn,hbb,hQ,hQp,hops,hsi,haP,by rw [hpl];unfold ned;omega,fi⟩;have H0:Hid (CmT w0 w F0 s d p sp c aC cC lab X aS cS zs S bg q1 P1 q2 P2 aP cP pgs):=h;have HE:Hid (ctE bz pz=0):=hE0;obtain ⟨n,hn⟩:∃n,pz.length=n:=⟨_,rfl⟩;have HN:Hid (pz.length=n/\n<=4300):=⟨hn,by rw [<-hn];exact HK.out.2.2.2.2.2.2.2.2.2.1⟩;have hn4:=HN.out.2;rw [hn] at hct hcp1 ⊢;clear h hb hbl hbb hcp hwin hpo hpl hpn fi hQ hQp hops hsi hE0 hpr hn haP;go_enter func177,ntmps177
 go_wp2_with (first
  |(go_at_call 94;refine hct.mono ?_;rintro e w1 ⟨v,rfl,k1,k2⟩
    rw [HE.out];unfold ctZ at k1;rw [if_pos HE.out] at k1;obtain ⟨va,vc,rfl,hvc,hvm⟩:=k1.slice;rw [XB,HN.out.1] at hvc;unfold maxLen at hvm;have HS1:Hid (PgL w.heap.size w1 (.slice va (ctL bz pz).length vc) (ctL bz pz)):=k1;rw [show (ctL bz pz).length=n from (XB bz pz).trans HN.out.1];have HI1:Hid (PtI w0 w w1 w1 F0 s d p sp c aC cC X aS cS zs S bg q1 P1 q2 P2 aP cP pgs X.D X.L):=⟨relab lab w.heap.size 9,H0.out.keep (i:=9) (by decide) (by decide) (Trn.below k2) (Agr.relab _ 9 _),fun j h1 h2=>⟨rfl,JH h1⟩⟩;clear hct k1 k2))
 go_loopg [23] n (fun gh i wr=>∃(k:Nat) (D':Dv) (L':List Fr),k<=n/\gh=n-k/\i=.int .i64 (k:Int)/\Hid (PutI X.N X.D X.L pz (ctL bz pz) Q k D' L'/\PtI w0 w w1 wr F0 s d p sp c aC cC X aS cS zs S bg q1 P1 q2 P2 aP cP pgs D' L'))
 case atStart=>exact ⟨0,X.D,X.L,jT _,rfl,rfl,PutI.zero HK.out.2.2.2.2.2.2.2.2.2.2 _ _ _,HI1.out⟩
 case round=>
  clear HI1 H0;obtain ⟨k,D',L',hk,hgk,rfl,HI⟩:=hrel;have HGK:Hid (gk=n-k):=hgk;clear hgk;by_cases hlt:k<n
  ·obtain ⟨hpi,labr,hT,hold⟩:=HI.out;obtain ⟨F1,hpo,hpF⟩:=hT.cm.sto.pool;have c0:=hT.cm.at.1;have s1:=hT.cm.sto.at.2.1;have hkp:k<pz.length:=by rw [HN.out.1];exact hlt
   have hgc:wr.cell? ⟨gp,o+k,none⟩=some (.int .i64 (pz.getD k 0)):=by
    have h2:=hT.pg;have h3:=HK.out.1 k hkp;rw [HK.out.2.2.2.2.2.2.2.2.1] at h2;rw [h2.cellI rfl (o+k) h3.2,h3.1]
   obtain ⟨qs,vcap,gs,gc,hv,hql,hsc0,hso0⟩:=PgL.atB HS1.out k (by rw [XB];exact hkp);have hgs:=World.ownsRow.lt hso0 gs rfl;have hsc:=(World.cell?_of_block (w:=w1) (a:=⟨qs,k,none⟩) (hold qs hql.1 hql.2).1).trans hsc0;have hso:Own w.heap.size wr (.slice (some ⟨gs,0,none⟩) ((ctL bz pz).getD k []).length gc) ((ctL bz pz).getD k []):=yQ hso0 (w':=wr) (fun j hj=>by have:=World.ownsRow.lt hso0 j hj;exact (hold j this.1 this.2).1);have hz256:((ctL bz pz).getD k []).length=256:=by rw [ctL_at _ _ _ hkp];exact uU ..
   have hzB:Bys ((ctL bz pz).getD k []):=by rw [ctL_at _ _ _ hkp];exact ZY (GN HK.out.2.2.2.1 k)
   rw [hz256] at hsc;simp only [Value.slice.injEq] at hv;obtain ⟨rfl,_,rfl⟩:=hv;have hrow:=(Own.row' hso hzB).2
   have hgpl:gp<wr.heap.size/\¬F1 gp:=by
    have h2:=hT.pg;rw [HK.out.2.2.2.2.2.2.2.2.1] at h2;exact ⟨(World.ownsRow.lt h2.1 gp rfl).2,fun e=>by have h3:=hpF gp e;have h4:=h2.2 gp ⟨_,rfl,rfl⟩;omega⟩
   have HG:Hid (gp<wr.heap.size/\¬F1 gp):=hgpl;clear hgpl;have hz2:=HK.out.2.1 k hkp;obtain ⟨pg,hpg⟩:∃pg:Nat,pz.getD k 0=(pg:Int):=⟨(pz.getD k 0).toNat,(qF (by omega)).symm⟩;have hpt:(pz.getD k 0).toNat=pg:=by rw [hpg];rfl
   have hmem:∀j,j<pz.length->pz.getD j 0∈pz:=fun j hj=>by rw [jA,jC hj];exact qB _
   have hpgn:(pz.getD k 0)<(X.D.n:Int):=HK.out.2.2.1 _ (hmem k hkp);have hpgd:pg<D'.n:=by rw [hpi.acts.n];omega
   obtain ⟨o1,o2⟩:=hpi.acts.ops;obtain ⟨b1,b2⟩:X.D.ops+5000<=1000000000/\X.D.since.length+5000<=1000000:=⟨HK.out.2.2.2.2.2.2.1,HK.out.2.2.2.2.2.2.2.1⟩;have hpd:Pool wr.drew p d F1 D' X.N L':=Pool.keep hpo (jB _) (fun _ _=>rfl);have hput:=Put_any hpd (by omega) (by omega) pg hpgd gs 0 gc ((ctL bz pz).getD k []) hz256 hrow (fun e=>by have h1:=hpF gs e;have h2:=(hold gs hgs.1 hgs.2).2;omega);have HT:Hid (CmT w0 wr F0 s d p sp c aC cC labr {X with D:=D',L:=L'} aS cS zs S bg q1 P1 q2 P2 aP cP pgs/\(∀j,w.heap.size<=j->j<w1.heap.size->wr.heap[j]?=w1.heap[j]?/\labr j=9)/\(∀k,F1 k->labr k=1)/\∀k,F1 k->k<wr.heap.size):=⟨hT,hold,hpF,hpo.lt⟩;obtain ⟨E,hE⟩:∃E,usE D' X.N L' pg false=E:=⟨_,rfl⟩;obtain ⟨D2,hD2⟩:∃D2,usD D' X.N L' pg false=D2:=⟨_,rfl⟩;obtain ⟨L2,hL2⟩:∃L2,ptF D' X.N L' pg ((ctL bz pz).getD k [])=L2:=⟨_,rfl⟩;have hnx:=hpi.next (E:=E) (D2:=D2) (L2:=L2) (by have:=(pool_n hpo).1;exact qA (by decide) this) hz2.2 (by omega) hpgn (fun j hj=>⟨by have:=(HK.out.2.1 j (by omega)).1;omega,HK.out.2.2.1 _ (hmem j (by omega))⟩) HK.out.2.2.2.2.1 (fun j hj=>HK.out.2.2.2.2.2.1 _ (hmem j (by omega))) hz256 hzB (by rw [hpt];exact hE) (by rw [hpt];exact hD2) (by rw [hpt];exact hL2);rw [hE,hD2,hL2] at hput;rw [hpg] at hgc;have HNX:Hid _:=hnx;clear hnx HI hpi hT hold hpo hpF hpd hE hD2 hL2 hz2 hpg hpt hmem hpgn o1 o2 b1 b2 hrow hso hso0 hsc0 hzB hz256 hpgd hgs;go_wp2_with fail
   go_region_held3 (fun w'=>w'.cell? ⟨c,0,none⟩=some (.pointer (some ⟨s,0,none⟩))/\w'.cell? ⟨s,1,none⟩=some (.pointer (some ⟨p,0,none⟩))/\w'.cell? ⟨gp,o+k,none⟩=some (.int .i64 (pg:Int))) (first|go_keep|exact ⟨by assumption,by assumption,by assumption⟩) (first
    |(go_at_call 58;refine hput.mono ?_;rintro e w2 ⟨rfl,F2,h2,st2'⟩
      have st2:=st2'.undrew;have HP2:Hid (PtI w0 w w1 w2 F0 s d p sp c aC cC X aS cS zs S bg q1 P1 q2 P2 aP cP pgs D2 L2):=ptI_step HT.out.1 HT.out.2.1 HT.out.2.2.1 HT.out.2.2.2 h2 st2;have x0:w2.cell? ⟨c,0,none⟩=some (.pointer (some ⟨s,0,none⟩)):=by obtain ⟨l,hl,_⟩:=HP2.out;exact hl.cm.at.1
      have x1:w2.cell? ⟨s,1,none⟩=some (.pointer (some ⟨p,0,none⟩)):=by obtain ⟨l,hl,_⟩:=HP2.out;exact hl.cm.sto.at.2.1
      have x2:w2.cell? ⟨gp,o+k,none⟩=some (.int .i64 (pg:Int)):=by
       refine (World.cell?_of_block (w:=wr) (a:=⟨gp,o+k,none⟩) (st2.1.block gp HG.out.1 HG.out.2)).trans hgc
      clear hput h2 st2 st2'))
   clear hsc c0 s1 hgc;rcases HNX.out with ⟨rfl,hnext⟩|⟨rfl,hbad,hfi,hac,hdp,htl⟩
   ·have HQ:Hid (PutI X.N X.D X.L pz (ctL bz pz) Q (k+1) D2 L2):=hnext;clear HNX hnext;go_wp2_with fail
    go_roundg (n-(k+1))
    case rel=>exact ⟨k+1,D2,L2,by omega,rfl,by go_num,HQ.out,HP2.out⟩
    case measure=>have:=HGK.out;omega
   ·have HF:Hid (PutE w0 F0 s d p sp c aC cC X aS cS zs S bg q1 P1 q2 P2 aP cP pgs bz pz Q (.returned (.int .i64 7)) w2):=by
     obtain ⟨l2,h2,_⟩:=HP2.out
     exact ⟨D2,L2,⟨l2,h2⟩,.inr ⟨rfl,hbad,hfi,⟨k+1,by omega,hac⟩,fun x hx=>by
      rcases hdp x hx with h|⟨j,hj,h⟩
      ·exact .inl h
      ·exact .inr ⟨j,by omega,h⟩,fun x b hx hj ht=>htl x b hx (fun j hj2=>hj j (by omega)) ht⟩⟩
    clear HNX hbad hfi hac hdp htl;go_wp2_with fail
    go_ret
    exact HF.out
  ·obtain rfl:k=n:=by omega
   obtain ⟨hpi,labr,hT,hold⟩:=HI.out;have HF:Hid (PutE w0 F0 s d p sp c aC cC X aS cS zs S bg q1 P1 q2 P2 aP cP pgs bz pz Q (.returned (.int .i64 0)) wr):=⟨D',L',⟨labr,hT⟩,.inl ⟨rfl,by rw [HN.out.1];exact hpi⟩⟩;clear HI hpi hT hold;go_wp2_with fail
   go_ret
   exact HF.out
end
end Go.Proofs.YtaijfhadecennaaGreat.Oct.Sx
namespace Go.Proofs.YtaijfhadecennaaGreat.Oct.Sx
open Go.RowKit
structure PuR (X:St) (pgs:List Int) (a:Nat) (zs bs:List Int) (Q:Nat->Prop) (D':Dv) (L':List Fr):Prop where
 fi:FI D' X.N L'
 acts:∃n,n<=pgs.length/\Acts Q n X.D D'
 dp:∀k,DP L' k->DP X.L k\/(k:Int)∈pgs
 old:∀k b,k<X.D.n->¬(k:Int)∈pgs->Tl X.D X.L k b->Tl D' L' k b
 newA:∀j,j<a->Tl D' L' ((pgs.take a).getD j 0).toNat ((ctL zs (pgs.take a)).getD j [])
 newF:∀j,j<pgs.length-a->Tl D' L' ((pgs.drop a).getD j 0).toNat ((ctL bs (pgs.drop a)).getD j [])
structure PuB (X:St) (pgs:List Int) (Q:Nat->Prop) (D':Dv) (L':List Fr):Prop where
 bad:Bad X.D D'
 fi:FI D' X.N L'
 acts:∃n,n<=pgs.length/\Acts Q n X.D D'
 dp:∀k,DP L' k->DP X.L k\/(k:Int)∈pgs
 old:∀k b,k<X.D.n->¬(k:Int)∈pgs->Tl X.D X.L k b->Tl D' L' k b
theorem VF {e:Ending} {A B:Prop} (h:(e=.returned (.int .i64 0)/\A)\/(e=.returned (.int .i64 7)/\B)):∃E:Int,e=.returned (.int .i64 E)/\((E=0/\A)\/(E=7/\B)):=by
 rcases h with ⟨e1,r⟩|⟨e1,r⟩
 ·exact ⟨0,e1,.inl ⟨rfl,r⟩⟩
 ·exact ⟨7,e1,.inr ⟨rfl,r⟩⟩
theorem zD {l:List Int} {j:Nat} (h:j<l.length):l.getD j 0∈l:=by
 rw [jA,jC h];exact qB _
theorem fE {l:List Int} {a j:Nat} (h:j<a):(l.take a).getD j 0=l.getD j 0:=by
 rw [jA,List.getElem?_take_of_lt h,<-jA]
theorem FC {l:List Int} {a j:Nat}:(l.drop a).getD j 0=l.getD (a+j) 0:=by
 rw [jA,qO,<-jA]
theorem puR_of {X:St} {pgs zs bs:List Int} {a:Nat} {Q:Nat->Prop} {D1 D2:Dv} {L1 L2:List Fr} (ha:a<=pgs.length) (hok:CtOk pgs) (hpn:∀z∈pgs,z<(X.D.n:Int))
  (h1:PutI X.N X.D X.L (pgs.take a) (ctL zs (pgs.take a)) Q (pgs.take a).length D1 L1) (h2:PutI X.N D1 L1 (pgs.drop a) (ctL bs (pgs.drop a)) Q (pgs.drop a).length D2 L2):PuR X pgs a zs bs Q D2 L2:=by
 have hl1:(pgs.take a).length=a:=by rw [qG];omega
 have hl2:(pgs.drop a).length=pgs.length-a:=by rw [qC]
 have hn:=h1.acts.n;refine ⟨h2.fi,⟨_,?_,h1.acts.trans h2.acts⟩,fun k hk=>?_,fun k b hk hm ht=>?_,fun j hj=>?_,fun j hj=>h2.new j (by omega)⟩
 ·omega
 ·rcases h2.dp k hk with h|⟨j,hj,e⟩
  ·rcases h1.dp k h with h|⟨j,hj,e⟩
   ·exact .inl h
   ·exact .inr (by rw [<-e];exact jU (zD hj))
  ·exact .inr (by rw [<-e];exact jV (zD hj))
 ·refine h2.old k b (by omega) (fun j hj e=>hm ?_) (h1.old k b hk (fun j hj e=>hm ?_) ht)
  ·rw [<-e];exact jV (zD hj)
  ·rw [<-e];exact jU (zD hj)
 ·have h3:=h1.new j (by omega);have hm:=zD (l:=pgs.take a) (j:=j) (by omega);have h4:=hpn _ (jU hm);have h5:=yW hok _ (jU hm);refine h2.old _ _ (by omega) (fun i hi e=>?_) h3;rw [qF (by omega),FC,fE hj] at e;exact (hok (a+i) (by omega)).2 j (by omega) e.symm
section
variable {w0 w w':World} {F0:Nat->Prop} {s d p sp c cC cS:Nat} {aC aS:Option Addr} {X:St} {zs:List Int} {lab lab':Nat->Nat} {S:Sp} {vC vT vB:Value} {bg:Bool} {q1 q2 cP:Nat} {P1 P2 pgs:List Int} {aP:Option Addr}
def PchE (w0:World) (F0:Nat->Prop) (s d p sp c:Nat) (aC:Option Addr) (cC:Nat) (X:St) (aS:Option Addr) (cS:Nat) (zs:List Int) (S:Sp) (bg:Bool) (q1:Nat) (P1:List Int) (q2:Nat) (P2:List Int) (aP:Option Addr) (cP:Nat) (pgs:List Int) (Q:Nat->Prop) (e:Ending) (w':World):Prop:=
 ∃D' L',(∃lab,CmT w0 w' F0 s d p sp c aC cC lab {X with D:=D',L:=L'} aS cS zs S bg q1 P1 q2 P2 aP cP pgs)/\
  ((e=.returned (.int .i64 0)/\PuR X pgs (ned zs.length) zs (bitL P2) Q D' L')\/(e=.returned (.int .i64 7)/\PuB X pgs Q D' L'))
set_option maxRecDepth 20000 in
theorem KS (h:CmT w0 w F0 s d p sp c aC cC lab X aS cS zs S bg q1 P1 q2 P2 aP cP pgs) (hzb:Bys zs) (hok:CtOk pgs) (hpn:∀z∈pgs,z<(X.D.n:Int)) (hl:pgs.length=ned zs.length+ned ((P2.length+7)/8)) (hl4:pgs.length<=4096) (fi:FI X.D X.N X.L) {Q:Nat->Prop} (hQ:∀k,DP X.L k->Q k) (hQp:∀z∈pgs,Q z.toNat) (hops:X.D.ops+10000<=1000000000) (hsi:X.D.since.length+10000<=1000000):
  Calls prog 132 #[.pointer (some ⟨c,0,none⟩)] w (PchE w0 F0 s d p sp c aC cC X aS cS zs S bg q1 P1 q2 P2 aP cP pgs Q):=by
 obtain ⟨c0,c1,c10,c11,c12,_⟩:=h.cm.at;obtain ⟨a,ha⟩:∃a,ned zs.length=a:=⟨_,rfl⟩;obtain ⟨b,hb⟩:∃b,ned ((P2.length+7)/8)=b:=⟨_,rfl⟩;rw [ha,hb] at hl;have hP2:8<=P2.length/\P2.length<=4096:=by obtain ⟨F,h1,_⟩:=h.bh;exact ⟨(FZ h1).lo,(FZ h1).hi⟩
 have hb0:0<b:=by rw [<-hb];unfold ned;omega
 obtain ⟨gp,hgp⟩:=XI h.pg.1 (by omega);subst hgp
 obtain ⟨hcap,hcm⟩:pgs.length<=cP/\cP<=maxLen:=by
  obtain ⟨a',c',e,hr⟩:=h.pg.1.row;simp only [Value.slice.injEq,true_and] at e;obtain ⟨rfl,rfl⟩:=e;exact ⟨hr.1,hr.2.1⟩
 have hzl:zs.length<=1000000:=by
  have:ned zs.length<=4096:=by omega
  unfold ned at this;omega
 have hnd:=fun (wx:World)=>Chs.Need_v (zs.length:Int) wx (by omega) (by omega)
 rw [YJ,ha] at hnd;have hld:(pgs.take a).length=a:=by rw [qG];omega
 have hlf:(pgs.drop a).length=b:=by rw [qC];omega
 have hput1:=put_any (h.keep (i:=9) (w':=w.drew) (by decide) (by decide) (Trn.below ((Below.refl _ w).drew)) (fun _ _=>rfl)) aS cS zs h.cm.us.1 hzl hzb gp 0 cP (pgs.take a) rfl (by rw [hld];exact ⟨by omega,hcm⟩) (fun i hi=>by rw [hld] at hi;rw [fE hi,qT];exact ⟨rfl,by omega⟩) (ct_take hok a) (by rw [hld,ha]) (fun z hz=>hpn z (jU hz)) fi hQ (fun z hz=>hQp z (jU hz)) (by omega) (by omega);rw [hld] at hput1;have HK:Hid (ned zs.length=a/\ned ((P2.length+7)/8)=b/\CtOk pgs/\(∀z∈pgs,z<(X.D.n:Int))/\(∀k,DP X.L k->Q k)/\(∀z∈pgs,Q z.toNat)/\X.D.ops+10000<=1000000000/\X.D.since.length+10000<=1000000/\(pgs.drop a).length=b/\(pgs.take a).length=a/\cP<=maxLen):=⟨ha,hb,hok,hpn,hQ,hQp,hops,hsi,hlf,hld,hcm⟩;obtain ⟨m,hm⟩:∃m,pgs.length=m:=⟨_,rfl⟩;have HM:Hid (pgs.length=m):=hm;rw [hm] at hl hl4 hcap c10;have hcm2:=hcm;unfold maxLen at hcm2;clear h hzb hok hpn fi hQ hQp hops hsi ha hb hld hlf hcm hm c0 c11 c12;go_enter func132,ntmps132
 go_wp2_with (go_at_call 90;refine (hnd _).mono ?_;rintro e w' ⟨rfl,rfl⟩)
 have hac:a<=cP:=by omega
 have haci:(a:Int)<=(cP:Int):=by omega
 have ha0i:(0:Int)<=(a:Int):=by omega
 go_region_held3 (fun w'=>w'.cell? ⟨c,1,none⟩=some (.slice aS zs.length cS)/\w'.cell? ⟨c,10,none⟩=some (.slice (some ⟨gp,0,none⟩) m cP)) (first|go_keep|exact ⟨by assumption,by assumption⟩) (first
  |(go_at_call 177;refine hput1.mono ?_;rintro e w2 ⟨D1,L1,hT,hE⟩
    obtain ⟨E,rfl,hE2⟩:=VF hE;have HT:Hid (∃lab,CmT w0 w2 F0 s d p sp c aC cC lab {X with D:=D1,L:=L1} aS cS zs S bg q1 P1 q2 P2 (some ⟨gp,0,none⟩) cP pgs):=hT;have HE:Hid _:=hE2
    obtain ⟨y1,y10,y12⟩:w2.cell? ⟨c,1,none⟩=some (.slice aS zs.length cS)/\w2.cell? ⟨c,10,none⟩=some (.slice (some ⟨gp,0,none⟩) m cP)/\w2.cell? ⟨c,12,none⟩=some (.pointer (some ⟨q2,0,none⟩)):=by
     obtain ⟨l,hl⟩:=HT.out;have h1:=hl.cm.at;rw [HM.out] at h1;exact ⟨h1.2.1,h1.2.2.1,h1.2.2.2.2.1⟩
    clear hput1 hT hE hE2))
 clear c1 c10;rcases HE.out with ⟨rfl,hA⟩|⟨rfl,hB⟩
 ·have HA:Hid _:=hA;clear hA HE;obtain ⟨lab2,hT2⟩:=HT.out;obtain ⟨F2,hb2,hl2⟩:=hT2.bh;have hbt:=Sps.bits_any (w:=w2.drew) (zH hb2 (jB _) (fun _ _=>rfl));have HT2:Hid _:=hT2;clear hT2 hb2 hl2 HT;have hami:(a:Int)<=(m:Int):=by omega
  have ham:a<=m:=by omega
  have hmci:(m:Int)<=(cP:Int):=by omega
  have hne:¬cP=a:=by omega
  have HML:Hid (m=a+b):=hl;have hPP:Hid (P2.length<=4096):=hP2.2;have hB0:Hid (0<b):=hb0;have HMB:Hid (b=m-a):=(by omega:b=m-a);clear hl hb0 hP2 hzl;go_wp2_with fail
  go_region_held3 (fun w'=>w'.cell? ⟨c,12,none⟩=some (.pointer (some ⟨q2,0,none⟩))/\w'.cell? ⟨c,10,none⟩=some (.slice (some ⟨gp,0,none⟩) m cP)) (first|go_keep|exact ⟨by assumption,by assumption⟩) (first
   |(go_at_call 91;refine hbt.mono ?_;rintro e w3 ⟨gb,cb,rfl,hob,hb3'⟩
     have hb3:Below w2.heap.size w2 w3:=((Below.refl _ w2).drew).trans hb3';have hT3:=HT2.out.keep (i:=9) (by decide) (by decide) (Trn.below hb3) (Agr.relab _ 9 _);have hd3:=HA.out;have hrw:Row w3 (some ⟨gb,0,none⟩) cb (bitL P2):=by rw [<-Sps.bitL_len P2] at hob;exact (Own.row' hob (Sps.bitL_bys P2)).2
     have hput2:=put_any hT3 (some ⟨gb,0,none⟩) cb (bitL P2) hrw (by rw [Sps.bitL_len];have:=hPP.out;omega) (Sps.bitL_bys P2) gp a (cP-a) (pgs.drop a) rfl (by rw [HK.out.2.2.2.2.2.2.2.2.1];have:=HK.out.2.2.2.2.2.2.2.2.2.2;have:=HML.out;omega) (fun i hi=>by rw [HK.out.2.2.2.2.2.2.2.2.1] at hi;rw [FC];exact ⟨rfl,by rw [HM.out];have:=HML.out;omega⟩) (ct_drop HK.out.2.2.1 a) (by rw [HK.out.2.2.2.2.2.2.2.2.1,Sps.bitL_len,HK.out.2.1]) (fun z hz=>by show z<(D1.n:Int);rw [hd3.acts.n];exact HK.out.2.2.2.1 z (jV hz)) hd3.fi (Q:=Q) (fun k hk=>by
       rcases hd3.dp k hk with h|⟨j,hj,e⟩
       ·exact HK.out.2.2.2.2.1 k h
       ·have:=HK.out.2.2.2.2.2.1 _ (jU (zD hj));rw [e] at this;exact this) (fun z hz=>HK.out.2.2.2.2.2.1 z (jV hz)) (by have h1:=hd3.acts.ops.1;have h2:=HK.out.2.2.2.2.2.2.1;have h3:=HK.out.2.2.2.2.2.2.2.2.2.1;show D1.ops+5000<=_;omega) (by have h1:=hd3.acts.ops.2;have h2:=HK.out.2.2.2.2.2.2.2.1;have h3:=HK.out.2.2.2.2.2.2.2.2.2.1;show D1.since.length+5000<=_;omega)
     rw [HK.out.2.2.2.2.2.2.2.2.1,Sps.bitL_len,HMB.out] at hput2
     obtain ⟨z12,z10⟩:w3.cell? ⟨c,12,none⟩=some (.pointer (some ⟨q2,0,none⟩))/\w3.cell? ⟨c,10,none⟩=some (.slice (some ⟨gp,0,none⟩) m cP):=by
      have h1:=hT3.cm.at;rw [HM.out] at h1;exact ⟨h1.2.2.2.2.1,h1.2.2.1⟩
     clear hbt hob hb3' hb3 hT3 hd3 hrw)
   |(go_at_call 177;refine hput2.mono ?_;rintro e w4 ⟨D2,L2,hT4,hE4⟩
     obtain ⟨E,rfl,hE5⟩:=VF hE4;have HT4:Hid (∃lab,CmT w0 w4 F0 s d p sp c aC cC lab {X with D:=D2,L:=L2} aS cS zs S bg q1 P1 q2 P2 (some ⟨gp,0,none⟩) cP pgs):=hT4;have HE4:Hid _:=hE5
     obtain ⟨u12,u10⟩:w4.cell? ⟨c,12,none⟩=some (.pointer (some ⟨q2,0,none⟩))/\w4.cell? ⟨c,10,none⟩=some (.slice (some ⟨gp,0,none⟩) m cP):=by
      obtain ⟨l,hl⟩:=HT4.out;have h1:=hl.cm.at;rw [HM.out] at h1;exact ⟨h1.2.2.2.2.1,h1.2.2.1⟩
     clear hput2 hT4 hE4 hE5))
  have HF:Hid (PchE w0 F0 s d p sp c aC cC X aS cS zs S bg q1 P1 q2 P2 (some ⟨gp,0,none⟩) cP pgs Q (.returned (.int .i64 E)) w4):=by
   have hlt:=HK.out.2.2.2.2.2.2.2.2.2.1;have hld:=HK.out.2.2.2.2.2.2.2.2.1;have hml:=HML.out;have hpm:=HM.out;have h1:=HA.out;refine ⟨D2,L2,HT4.out,?_⟩;rcases HE4.out with ⟨rfl,h2⟩|⟨rfl,h2,h3,⟨n,h4,h5⟩,h6,h7⟩
   ·refine .inl ⟨rfl,?_⟩;rw [HK.out.1];exact puR_of (by omega) HK.out.2.2.1 HK.out.2.2.2.1 h1 h2
   ·refine .inr ⟨rfl,h1.acts.mo.bad h2,h3,⟨_,?_,h1.acts.trans h5⟩,fun k hk=>?_,fun k b hk hm ht=>?_⟩
    ·omega
    ·rcases h6 k hk with h|⟨j,hj,e⟩
     ·rcases h1.dp k h with h|⟨j,hj,e⟩
      ·exact .inl h
      ·exact .inr (by rw [<-e];exact jU (zD hj))
     ·exact .inr (by rw [<-e];exact jV (zD hj))
    ·refine h7 k b (by rw [h1.acts.n];exact hk) (fun j hj e=>hm ?_) (h1.old k b hk (fun j hj e=>hm ?_) ht)
     ·rw [<-e];exact jV (zD hj)
     ·rw [<-e];exact jU (zD hj)
  clear HE4 HT4 HA;go_wp2_with fail
  go_ret
  exact HF.out
 ·have HB:Hid (PchE w0 F0 s d p sp c aC cC X aS cS zs S bg q1 P1 q2 P2 (some ⟨gp,0,none⟩) cP pgs Q (.returned (.int .i64 7)) w2):=by
   obtain ⟨h1,h2,⟨n,h3,h4⟩,h5,h6⟩:=hB;have hl1:=HK.out.2.2.2.2.2.2.2.2.2.1;have hM:=HM.out;refine ⟨D1,L1,HT.out,.inr ⟨rfl,h1,h2,⟨n,by omega,h4⟩,fun k hk=>?_,fun k b hk hm ht=>h6 k b hk (fun j hj e=>hm ?_) ht⟩⟩
   ·rcases h5 k hk with h|⟨j,hj,e⟩
    ·exact .inl h
    ·exact .inr (by rw [<-e];exact jU (zD hj))
   ·rw [<-e];exact jU (zD hj)
  clear hB HE HT;go_wp2_with fail
  go_ret
  exact HB.out
end
end Go.Proofs.YtaijfhadecennaaGreat.Oct.Sx
namespace Go.Proofs.YtaijfhadecennaaGreat.Oct.Sx
open Go.RowKit
section
variable {w0 w w':World} {F0:Nat->Prop} {s d p sp c cC cS:Nat} {aC aS:Option Addr} {X:St} {zs:List Int} {lab lab':Nat->Nat} {S:Sp} {vC vT vB:Value} {bg:Bool} {q1 q2 cP:Nat} {P1 P2 pgs:List Int} {aP:Option Addr}
theorem CmC.own (h:CmC w0 w F0 s d p sp c aC cC lab X aS cS zs S vC vT vB bg) (hc:Ch w.heap.size (fun k=>k=s) w w') {S':Sp} {pl g:Int} (hb:w'.heap[s]?=some (.cells (stC d p sp S' pl (.slice aC X.C.length cC) g) 81 (0,0))):
  CmC w0 w' F0 s d p sp c aC cC (relab lab w.heap.size 4) {X with S:=S',pl:=pl,g:=g} aS cS zs S vC vT vB bg:=by
 have t:Trn lab 0 w w':=Trn.ch hc (fun k hk=>by rw [hk];exact h.sto.l0);have hlc:=yR h.cm;exact ⟨h.sto.own' hc hb,h.lb.turn t (by decide) (Agr.relab _ 4 _),h.us.keep t (by decide) (Agr.relab _ 4 _),(t.block hlc (by rw [h.lc];decide)).trans h.cm,by rw [zB hlc];exact h.lc⟩
theorem CmT.own (h:CmT w0 w F0 s d p sp c aC cC lab X aS cS zs S bg q1 P1 q2 P2 aP cP pgs) (hc:Ch w.heap.size (fun k=>k=s) w w') {S':Sp} {pl g:Int} (hb:w'.heap[s]?=some (.cells (stC d p sp S' pl (.slice aC X.C.length cC) g) 81 (0,0))):
  CmT w0 w' F0 s d p sp c aC cC (relab lab w.heap.size 4) {X with S:=S',pl:=pl,g:=g} aS cS zs S bg q1 P1 q2 P2 aP cP pgs:=by
 have t:Trn lab 0 w w':=Trn.ch hc (fun k hk=>by rw [hk];exact h.cm.sto.l0);exact ⟨h.cm.own hc hb,h.tk.keep t (by decide) (Agr.relab _ 4 _),h.bh.keep t (by decide) (Agr.relab _ 4 _),h.pg.keep t (by decide) (Agr.relab _ 4 _)⟩
theorem CmT.begin (h:CmT w0 w F0 s d p sp c aC cC lab X aS cS zs S bg q1 P1 q2 P2 aP cP pgs):CmT w0 (w.setCell ⟨c,13,none⟩ (.bool true)) F0 s d p sp c aC cC lab X aS cS zs S true q1 P1 q2 P2 aP cP pgs:=by
 have hc:Ch w.heap.size (fun k=>k=c) w (w.setCell ⟨c,13,none⟩ (.bool true)):=(Ch.refl w.heap.size (fun k=>k=c) w).setCell (p:=⟨c,13,none⟩) (.inr rfl) _;have t:Trn lab 4 w (w.setCell ⟨c,13,none⟩ (.bool true)):=Trn.ch hc (fun k hk=>by rw [hk];exact h.cm.lc);refine ⟨h.cm.set hc (fun _ _=>rfl) ?_,h.tk.keep t (by decide) (fun _ _=>rfl),h.bh.keep t (by decide) (fun _ _=>rfl),h.pg.keep t (by decide) (fun _ _=>rfl)⟩;rw [yO _ _ _ _ _ _ _ h.cm.cm];rfl
theorem CmT.drew (h:CmT w0 w F0 s d p sp c aC cC lab X aS cS zs S bg q1 P1 q2 P2 aP cP pgs):CmT w0 w.drew F0 s d p sp c aC cC lab X aS cS zs S bg q1 P1 q2 P2 aP cP pgs:=
 h.keep (i:=9) (by decide) (by decide) (Trn.below ((Below.refl _ w).drew)) (fun _ _=>rfl)
theorem flush_st (h:CmT w0 w F0 s d p sp c aC cC lab X aS cS zs S bg q1 P1 q2 P2 aP cP pgs) (hops:X.D.ops<=1000000000) (hsi:X.D.since.length<=900000):
  Calls prog 133 #[.pointer (some ⟨p,0,none⟩)] w fun e w'=>e=.returned (.int .i64 (flS (pgsP X.L fitD) X.D X.L).1)/\∃lab,CmT w0 w' F0 s d p sp c aC cC lab {X with D:=(flS (pgsP X.L fitD) X.D X.L).2.1,L:=(flS (pgsP X.L fitD) X.D X.L).2.2} aS cS zs S bg q1 P1 q2 P2 aP cP pgs:=by
 obtain ⟨F,hp,hF⟩:=h.cm.sto.pool;refine (Flush_any hp hops hsi).mono ?_;rintro e w' ⟨rfl,F',hp',st⟩;exact ⟨rfl,_,h.pool hF hp.lt hp' st⟩
theorem sync_st (h:CmT w0 w F0 s d p sp c aC cC lab X aS cS zs S bg q1 P1 q2 P2 aP cP pgs) (hops:X.D.ops<=4611686018427387904):
  Calls prog 97 #[.pointer (some ⟨d,0,none⟩)] w fun e w'=>e=.returned (.int .i64 (saysD X.D))/\∃lab,CmT w0 w' F0 s d p sp c aC cC lab {X with D:=syncD X.D} aS cS zs S bg q1 P1 q2 P2 aP cP pgs:=by
 obtain ⟨F,hp,hF⟩:=h.cm.sto.pool;refine (FQ hp hops).mono ?_;rintro e w' ⟨rfl,F',hp',st⟩;exact ⟨rfl,_,h.pool hF hp.lt hp' st⟩
end
end Go.Proofs.YtaijfhadecennaaGreat.Oct.Sx
namespace Go.Proofs.YtaijfhadecennaaGreat.Oct.Sx
open Go.RowKit
section
variable {w0 w w':World} {F0:Nat->Prop} {s d p sp c cC cS:Nat} {aC aS:Option Addr} {X:St} {zs:List Int} {lab lab':Nat->Nat} {S:Sp} {vC vT vB:Value} {bg:Bool} {q1 q2 cP:Nat} {P1 P2 pgs:List Int} {aP:Option Addr}
theorem CmC.super (h:CmC w0 w F0 s d p sp c aC cC lab X aS cS zs S vC vT vB bg):w.cell? ⟨c,2,none⟩=some (.int .i64 S.g)/\w.cell? ⟨c,3,none⟩=some (.int .i64 S.p)/\w.cell? ⟨c,4,none⟩=some (.int .i64 S.r)/\w.cell? ⟨c,5,none⟩=some (.int .i64 S.h)/\w.cell? ⟨c,6,none⟩=some (.int .i64 S.b)/\w.cell? ⟨c,7,none⟩=some (.int .i64 S.l)/\w.cell? ⟨c,8,none⟩=some (.int .i64 S.s)/\w.cell? ⟨c,9,none⟩=some (.int .i64 S.f):=by
 refine ⟨?_,?_,?_,?_,?_,?_,?_,?_⟩
 all_goals (rw [h.cell];rfl)
def Kp9 (B:Nat) (w1 wx:World) (lab:Nat->Nat):Prop:=∀j,B<=j->j<w1.heap.size->wx.heap[j]?=w1.heap[j]?/\lab j=9
theorem Kp9.turn {B:Nat} {w1 wx wy:World} {lab lab':Nat->Nat} {i:Nat} (h:Kp9 B w1 wx lab) (t:Trn lab i wx wy) (hi:i≠9) (g:Agr wx.heap.size lab lab'):Kp9 B w1 wy lab':=fun j h1 h2=>by
 obtain ⟨e1,e2⟩:=h j h1 h2;have hlt:j<wx.heap.size:=yR (e1.trans (xD h2));exact ⟨(t.block hlt (by omega)).trans e1,by rw [g j hlt];exact e2⟩
def WsE (w0:World) (F0:Nat->Prop) (s d p sp c:Nat) (aC:Option Addr) (cC:Nat) (X:St) (aS:Option Addr) (cS:Nat) (zs:List Int) (S:Sp) (q1:Nat) (P1:List Int) (q2:Nat) (P2:List Int) (aP:Option Addr) (cP:Nat) (pgs:List Int) (k:Nat) (e:Ending) (w':World):Prop:=
 e=.returned (.int .i64 (saysD X.D))/\∃lab,CmT w0 w' F0 s d p sp c aC cC lab {X with D:=writeD X.D k (enZ S),L:=fgL X.L k,g:=S.g} aS cS zs S true q1 P1 q2 P2 aP cP pgs
set_option maxRecDepth 20000 in
theorem VB (h:CmT w0 w F0 s d p sp c aC cC lab X aS cS zs S bg q1 P1 q2 P2 aP cP pgs) (hS:okS S=true) (k:Nat) (hk:(1:Int)-X.pl=(k:Int)) (hpl:0<=X.pl/\X.pl<=1) (hn:2<=X.D.n) (hops:X.D.ops<=1000000000) (hsi:X.D.since.length<=1000000):
  Calls prog 134 #[.pointer (some ⟨c,0,none⟩)] w (WsE w0 F0 s d p sp c aC cC X aS cS zs S q1 P1 q2 P2 aP cP pgs k):=by
 obtain ⟨c2,c3,c4,c5,c6,c7,c8,c9⟩:=h.cm.super;have hE:enE S=0:=by unfold enE;rw [if_pos hS]
 have hZl:(enZ S).length=256:=by rw [uT,if_pos hS]
 have hen:=encode_v S w 0 hE (enZ S) rfl 256 hZl;have H0:Hid (CmT w0 w F0 s d p sp c aC cC lab X aS cS zs S bg q1 P1 q2 P2 aP cP pgs):=h;have HK:Hid (enE S=0/\(enZ S).length=256/\(1:Int)-X.pl=(k:Int)/\(0<=X.pl/\X.pl<=1)/\2<=X.D.n/\X.D.ops<=1000000000/\X.D.since.length<=1000000):=⟨hE,hZl,hk,hpl,hn,hops,hsi⟩;clear h hS hk hpl hn hops hsi hE hZl;go_enter func134,ntmps134
 go_wp2_with (first
  |(go_at_call 95;refine hen.mono ?_;rintro e w1 ⟨gz,cz,rfl,ho1,hb1⟩
    have hT1:=H0.out.keep (i:=9) (by decide) (by decide) (Trn.below hb1) (Agr.relab _ 9 _);obtain ⟨x13,xf⟩:w1.cell? ⟨c,13,none⟩=some (.bool bg)/\w1.frozen? ⟨c,13,none⟩=false:=⟨hT1.cm.at.2.2.2.2.2,hT1.cm.frz 13⟩;have HT1:Hid _:=hT1;have HO1:Hid (Own w.heap.size w1 (.slice gz 256 cz) (enZ S)/\∀j,w.heap.size<=j->relab lab w.heap.size 9 j=9):=⟨ho1,fun j hj=>JH hj⟩;clear hen c2 c3 c4 c5 c6 c7 c8 c9 ho1 hb1 hT1))
 obtain ⟨w2,hw2⟩:∃w2,w1.setCell ⟨c,13,none⟩ (.bool true)=w2:=⟨_,rfl⟩;rw [hw2]
 have H2:Hid (CmT w0 w2 F0 s d p sp c aC cC (relab lab w.heap.size 9) X aS cS zs S true q1 P1 q2 P2 aP cP pgs/\Kp9 w.heap.size w1 w2 (relab lab w.heap.size 9)):=by
  have h1:=HT1.out.begin
  have t:Trn (relab lab w.heap.size 9) 4 w1 w2:=by
   rw [<-hw2];exact Trn.ch ((Ch.refl w1.heap.size (fun k=>k=c) w1).setCell (p:=⟨c,13,none⟩) (.inr rfl) _) (fun k hk=>by rw [hk];exact HT1.out.cm.lc)
  rw [hw2] at h1;exact ⟨h1,Kp9.turn (fun j hj _=>⟨rfl,HO1.out.2 j hj⟩) t (by decide) (fun _ _=>rfl)⟩
 obtain ⟨hT2,_⟩:=H2.out;have c0:=hT2.cm.at.1;have c2:=hT2.cm.super.1;have s13:=hT2.cm.sto.at.2.2.2.2.2.1;have f13:=hT2.cm.sto.frz 13;have HSC:Hid (w2.heap[s]?=some (.cells (stC d p sp X.S X.pl (.slice aC X.C.length cC) X.g) 81 (0,0))):=hT2.cm.sto.cells;clear hw2 x13 xf hT2;go_region
 obtain ⟨w3,hw3⟩:∃w3,(w2.setCell ⟨s,13,none⟩ (.int .i64 S.g)).drew=w3:=⟨_,rfl⟩;rw [hw3]
 have H3:Hid (∃lab3,CmT w0 w3 F0 s d p sp c aC cC lab3 {X with g:=S.g} aS cS zs S true q1 P1 q2 P2 aP cP pgs/\Kp9 w.heap.size w1 w3 lab3):=by
  obtain ⟨h1,h2⟩:=H2.out;have hc:Ch w2.heap.size (fun k=>k=s) w2 (w2.setCell ⟨s,13,none⟩ (.int .i64 S.g)):=(Ch.refl w2.heap.size (fun k=>k=s) w2).setCell (p:=⟨s,13,none⟩) (.inr rfl) _;have h3:=h1.own hc (S':=X.S) (pl:=X.pl) (g:=S.g) (by rw [yO _ _ _ _ _ _ _ HSC.out];rfl);have h4:=h2.turn (i:=0) (Trn.ch hc (fun k hk=>by rw [hk];exact h1.cm.sto.l0)) (by decide) (Agr.relab _ 4 _);rw [<-hw3];exact ⟨_,h3.drew,h4⟩
 clear H2 hw3 HSC c0 c2 s13 f13 HT1;obtain ⟨lab3,hT3,hk3⟩:=H3.out;obtain ⟨c0,s1,s11⟩:w3.cell? ⟨c,0,none⟩=some (.pointer (some ⟨s,0,none⟩))/\w3.cell? ⟨s,1,none⟩=some (.pointer (some ⟨p,0,none⟩))/\w3.cell? ⟨s,11,none⟩=some (.int .i64 X.pl):=⟨hT3.cm.at.1,hT3.cm.sto.at.2.1,hT3.cm.sto.at.2.2.2.1⟩;have hplc:=fun (wx:World) (h0:wx.cell? ⟨c,0,none⟩=some (.pointer (some ⟨s,0,none⟩))) (h1:wx.cell? ⟨s,11,none⟩=some (.int .i64 X.pl))=>fM c s X.pl wx h0 h1 HK.out.2.2.2.1
 rw [HK.out.2.2.1] at hplc;obtain ⟨F3,hp3,hF3⟩:=hT3.cm.sto.pool;have hk1:k<=1:=by have:=HK.out.2.2.1;have:=HK.out.2.2.2.1;omega
 have hfg:=ZQ (w:=w3.drew) (Pool.keep hp3 (jB _) (fun _ _=>rfl)) (k:Int) (by obtain h|h:k=0\/k=1:=(by omega)<;>rw [h]<;>decide);have HP3:Hid ((∀k,F3 k->lab3 k=1)/\∀k,F3 k->k<w3.heap.size):=⟨hF3,hp3.lt⟩;have HT3:Hid (CmT w0 w3 F0 s d p sp c aC cC lab3 {X with g:=S.g} aS cS zs S true q1 P1 q2 P2 aP cP pgs/\Kp9 w.heap.size w1 w3 lab3):=⟨hT3,hk3⟩;clear H3 hT3 hk3 hp3 hF3;go_wp2_with fail
 go_region_held3 (fun w'=>w'.cell? ⟨c,0,none⟩=some (.pointer (some ⟨s,0,none⟩))/\w'.cell? ⟨s,1,none⟩=some (.pointer (some ⟨p,0,none⟩))/\w'.cell? ⟨s,11,none⟩=some (.int .i64 X.pl)) (first|go_keep|exact ⟨by assumption,by assumption,by assumption⟩) (first
  |(go_at_call 136;refine (hplc _ (by assumption) (by assumption)).mono ?_;rintro e w' ⟨rfl,rfl⟩)
  |(go_at_call 137;refine hfg.mono ?_;rintro e w4 ⟨rfl,hp4,hc4⟩
    have st4:Step F3 F3 w3 w4:=Step.of (Ch.undrew hc4);have H4:Hid (∃lab4,CmT w0 w4 F0 s d p sp c aC cC lab4 {X with L:=fgL X.L k,g:=S.g} aS cS zs S true q1 P1 q2 P2 aP cP pgs/\Kp9 w.heap.size w1 w4 lab4):=⟨_,HT3.out.1.pool HP3.out.1 HP3.out.2 hp4 st4,HT3.out.2.turn (Trn.of st4 HP3.out.1) (by decide) (Agr.relab _ 1 _)⟩
    obtain ⟨d0,d1,d11,t0⟩:w4.cell? ⟨c,0,none⟩=some (.pointer (some ⟨s,0,none⟩))/\w4.cell? ⟨s,1,none⟩=some (.pointer (some ⟨p,0,none⟩))/\w4.cell? ⟨s,11,none⟩=some (.int .i64 X.pl)/\w4.cell? ⟨s,0,none⟩=some (.pointer (some ⟨d,0,none⟩)):=by
     obtain ⟨l4,h4,_⟩:=H4.out;exact ⟨h4.cm.at.1,h4.cm.sto.at.2.1,h4.cm.sto.at.2.2.2.1,h4.cm.sto.at.1⟩
    clear hfg hp4 hc4 st4))
 clear c0 s1 s11 HT3 HP3 d1;obtain ⟨lab4,hT4,hk4⟩:=H4.out;obtain ⟨F4,hp4,hF4⟩:=hT4.cm.sto.pool
 have hrow:Row w4.drew gz cz (enZ S):=by
  have h1:Own w.heap.size w4 (.slice gz 256 cz) (enZ S):=yQ HO1.out.1 (fun j hj=>by have:=World.ownsRow.lt HO1.out.1 j hj;exact (hk4 j this.1 this.2).1);exact (Own.row' h1 (ZB S)).2
 have hwr:=YB (w:=w4.drew) (Pool.keep hp4 (jB _) (fun _ _=>rfl)) (by have:=HK.out.2.2.2.2.2.1;show X.D.ops<=_;omega) HK.out.2.2.2.2.2.2 k (by have:=HK.out.2.2.2.2.1;show k<X.D.n;omega) gz cz (enZ S) hrow HK.out.2.1;have HT4:Hid (CmT w0 w4 F0 s d p sp c aC cC lab4 {X with L:=fgL X.L k,g:=S.g} aS cS zs S true q1 P1 q2 P2 aP cP pgs/\(∀k,F4 k->lab4 k=1)/\∀k,F4 k->k<w4.heap.size):=⟨hT4,hF4,hp4.lt⟩;clear H4 hT4 hk4 hp4 hF4 hrow;go_wp2_with fail
 go_region_held3 (fun w'=>w'.cell? ⟨c,0,none⟩=some (.pointer (some ⟨s,0,none⟩))/\w'.cell? ⟨s,0,none⟩=some (.pointer (some ⟨d,0,none⟩))/\w'.cell? ⟨s,11,none⟩=some (.int .i64 X.pl)) (first|go_keep|exact ⟨by assumption,by assumption,by assumption⟩) (first
  |(go_at_call 136;refine (hplc _ (by assumption) (by assumption)).mono ?_;rintro e w' ⟨rfl,rfl⟩)
  |(go_at_call 96;refine hwr.mono ?_;rintro e w5 ⟨rfl,F5,hp5,st5'⟩
    have st5:=st5'.undrew;have H5:Hid (∃lab5,CmT w0 w5 F0 s d p sp c aC cC lab5 {X with D:=writeD X.D k (enZ S),L:=fgL X.L k,g:=S.g} aS cS zs S true q1 P1 q2 P2 aP cP pgs):=⟨_,HT4.out.1.pool HT4.out.2.1 HT4.out.2.2 hp5 st5⟩
    obtain ⟨e0,e11,u0⟩:w5.cell? ⟨c,0,none⟩=some (.pointer (some ⟨s,0,none⟩))/\w5.cell? ⟨s,11,none⟩=some (.int .i64 X.pl)/\w5.cell? ⟨s,0,none⟩=some (.pointer (some ⟨d,0,none⟩)):=by
     obtain ⟨l4,h4⟩:=H5.out;exact ⟨h4.cm.at.1,h4.cm.sto.at.2.2.2.1,h4.cm.sto.at.1⟩
    clear hwr hp5 st5 st5'))
 have HF:Hid (WsE w0 F0 s d p sp c aC cC X aS cS zs S q1 P1 q2 P2 aP cP pgs k (.returned (.int .i64 (saysD X.D))) w5):=⟨rfl,H5.out⟩;clear H5 HT4;go_wp2_with fail
 go_ret
 exact HF.out
end
end Go.Proofs.YtaijfhadecennaaGreat.Oct.Sx
