/- Part of a proof. -/
import Derived.Test.YtaijfhadecennaaGreatKb
import Derived.Deep.AppendLies
import Derived.StillTailTactics
import Derived.Test.YtaijfhadecennaaGreatVd
namespace Go.Proofs.YtaijfhadecennaaGreat.Oct
open Go.RowKit
theorem infoPl:(Tryz.prog.info? 32).map (fun i=>(i.zero,i.size,i.bytes))=some (some (.slice none 0 0),1,24):=by kernel_rfl
def PgL (base:Nat) (w:World) (v:Value) (L:List (List Int)):Prop:=
 ∃vs,w.ownsRow base 32 1 v L.length vs/\∀i,i<L.length->∃g c,vs[i]?=some (.slice (some ⟨g,0,none⟩) (L.getD i []).length c)/\Own base w (.slice (some ⟨g,0,none⟩) (L.getD i []).length c) (L.getD i [])/\v.ownBlock≠some g
theorem pgL_nil (base:Nat) (w:World):PgL base w (.slice none 0 0) []:=⟨[],World.ownsRow_nil _ _ _ _,fun i hi=>by simp at hi⟩
theorem PgL.below {base:Nat} {w w':World} {v:Value} {L:List (List Int)} (h:PgL base w v L) (hb:Below w.heap.size w w'):PgL base w' v L:=by
 obtain ⟨vs,h1,h2⟩:=h;refine ⟨vs,vR h1 hb,fun i hi=>?_⟩;obtain ⟨g,c,e,ho,hn⟩:=h2 i hi;exact ⟨g,c,e,ho.kept (hb.block g ho.lt2.2),hn⟩
theorem PgL.at {base:Nat} {w:World} {v:Value} {L:List (List Int)} (h:PgL base w v L) (i:Nat) (hi:i<L.length):
  ∃q cap g c,v=.slice (some ⟨q,0,none⟩) L.length cap/\L.length<=cap/\cap<=maxLen/\w.cell? ⟨q,i,none⟩=some (.slice (some ⟨g,0,none⟩) (L.getD i []).length c)/\Own base w (.slice (some ⟨g,0,none⟩) (L.getD i []).length c) (L.getD i [])/\g≠q:=by
 obtain ⟨vs,h1,h2⟩:=h;obtain ⟨g,c,e,ho,hn⟩:=h2 i hi;rcases id h1.2 with ⟨rfl,h0⟩|⟨q,cap,cur,rfl,hq,hc,hl,hm,hs,ht⟩
 ·omega
 ·refine ⟨q,cap,g,c,rfl,hl,hm,?_,ho,fun e2=>hn (by rw [e2];rfl)⟩;rw [World.ownsRow.cellAt h1 i (by omega)];exact e
theorem PgL.slice {base:Nat} {w:World} {v:Value} {L:List (List Int)} (h:PgL base w v L):∃a cap,v=.slice a L.length cap/\L.length<=cap/\cap<=maxLen:=by
 obtain ⟨vs,h1,h2⟩:=h;rcases h1.2 with ⟨h1,h0⟩|⟨q,cap,cur,h1,hq,hc,hl,hm,hs,ht⟩
 ·exact ⟨none,0,by rw [h1,h0],by omega,by simp [maxLen]⟩
 ·exact ⟨_,cap,h1,hl,hm⟩
theorem PgL.snoc {base:Nat} {w w1:World} {v v':Value} {L:List (List Int)} {vs:List Value} {Z:List Int} {g c:Nat} {o:Obj}
  (h2:∀i,i<L.length->∃g c,vs[i]?=some (.slice (some ⟨g,0,none⟩) (L.getD i []).length c)/\Own base w (.slice (some ⟨g,0,none⟩) (L.getD i []).length c) (L.getD i [])/\v.ownBlock≠some g)
  (hvs:vs.length=L.length) (ho:Own base w (.slice (some ⟨g,0,none⟩) Z.length c) Z) (hv:v.ownBlock≠some g)
  (hown':w1.ownsRow base 32 1 v' (L.length+1) (vs++[.slice (some ⟨g,0,none⟩) Z.length c])) (hgrow:(w.alloc o).grownBy w1 v.ownBlock) (hat:∀k,v'.ownBlock=some k->v.ownBlock=some k\/(w.alloc o).heap.size<=k):PgL base w1 v' (L++[Z]):=by
 have hsz:w.heap.size<(w.alloc o).heap.size:=yR (heap_alloc_new w o);have kk:∀x,x<w.heap.size->v.ownBlock≠some x->w1.heap[x]?=w.heap[x]?:=fun x hx hn=>(hgrow.block x (by omega) (fun e=>hn e.symm)).trans (Below.heap_alloc w o x hx)
 have nn:∀x,x<w.heap.size->v.ownBlock≠some x->v'.ownBlock≠some x:=fun x hx hn e=>by
  rcases hat x e with e|e
  ·exact hn e
  ·omega
 refine ⟨vs++[.slice (some ⟨g,0,none⟩) Z.length c],by rw [jN];exact hown',fun i hi=>?_⟩;rw [jN,List.length_singleton] at hi;by_cases e:i<L.length
 ·obtain ⟨g',c',e1,ho1,hn1⟩:=h2 i e;have eg:(L++[Z]).getD i []=L.getD i []:=by rw [jA,qP e,<-jA]
  rw [eg];exact ⟨g',c',by rw [qP (by omega)];exact e1,ho1.kept (kk g' ho1.lt2.2 hn1),nn g' ho1.lt2.2 hn1⟩
 ·have ei:i=L.length:=by omega
  subst ei;have eg:(L++[Z]).getD L.length []=Z:=by simp
  rw [eg];exact ⟨g,c,by rw [<-hvs];simp,ho.kept (kk g ho.lt2.2 hv),nn g ho.lt2.2 hv⟩
theorem Own.some {base:Nat} {w:World} {ga:Option Addr} {n ca:Nat} {zs:List Int} (h:Own base w (.slice ga n ca) zs) (e:0<zs.length):∃q,ga=some ⟨q,0,none⟩:=by
 rcases h.2 with ⟨_,e2⟩|⟨g,cap,cur,e2,_⟩
 ·omega
 ·cases e2;exact ⟨g,rfl⟩
theorem PgL.grown {base:Nat} {w w1:World} {v:Value} {L:List (List Int)} {vs:List Value} {Z:List Int} {q c n g cap:Nat} {o:Obj}
  (h2:∀i,i<L.length->∃g c,vs[i]?=some (.slice (some ⟨g,0,none⟩) (L.getD i []).length c)/\Own base w (.slice (some ⟨g,0,none⟩) (L.getD i []).length c) (L.getD i [])/\v.ownBlock≠some g)
  (hvs:vs.length=L.length) (hZ:Z.length=n) (ho:Own base w (.slice (some ⟨q,0,none⟩) n c) Z) (hv:v.ownBlock≠some q)
  (hown':w1.ownsRow base 32 1 (.slice (some ⟨g,0,none⟩) (L.length+1) cap) (L.length+1) (vs++[.slice (some ⟨q,0,none⟩) n c])) (hgrow:(w.alloc o).grownBy w1 v.ownBlock) (hat:v.ownBlock=some g\/g=w.heap.size+1):PgL base w1 (.slice (some ⟨g,0,none⟩) (L.length+1) cap) (L++[Z]):=by
 subst hZ;have hsz:(w.alloc o).heap.size=w.heap.size+1:=by simp
 refine PgL.snoc h2 hvs ho hv hown' hgrow fun k hk=>?_
 have e:g=k:=by simpa [Value.ownBlock] using hk
 rcases hat with h|h
 ·exact .inl (by rw [<-e];exact h)
 ·exact .inr (by omega)
def CtR (w:World) (zs pg:List Int) (e:Ending) (w':World):Prop:=∃v,e=.returned (.tuple #[v,.int .i64 (ctE zs pg)])/\PgL w.heap.size w' v (ctZ zs pg)/\Below w.heap.size w w'
theorem CtR.no {w w':World} {zs pg:List Int} {z:Int} (h:ctE zs pg=z) (hz:z≠0) (hb:Below w.heap.size w w'):CtR w zs pg (.returned (.tuple #[.slice none 0 0,.int .i64 z])) w':=by
 refine ⟨_,by rw [h],?_,hb⟩;unfold ctZ;rw [h,if_neg hz];exact pgL_nil _ _
theorem ctE_ok {zs pg:List Int} (hl:pg.length=ned zs.length) (h:CtOk pg) (hz:zs.length<=1048576):ctE zs pg=0:=by
 unfold ctE;rw [if_pos hl,if_pos (ctB_iff.2 h),if_pos hz]
def ctUp (pg:List Int) (k:Nat):Prop:=∀i,i<k->(2<=pg.getD i 0/\pg.getD i 0<4096)/\∀j,j<i->pg.getD j 0≠pg.getD i 0
theorem nou_zero (n:Nat):nouB (List.replicate n 0)=true:=nouB_iff.2 fun j hj=>by
 rw [jK] at hj;rw [jA,xA,if_pos hj];rfl
theorem nx_cpg {zs pg:List Int} {k:Nat} (hX:0<=nxt pg k/\nxt pg k<4096):nx (padP (cpg zs pg k))=nxt pg k:=by
 have h:=JU [] (nums 4 (nxt pg k).toNat) (prt zs k++List.replicate (248-(cpg zs pg k).body.length) 0) 0 4 (zR _ _) rfl (by rw [yS];rfl) (by rw [yS];omega) (by rw [yS];omega);unfold nx
 have e:(padP (cpg zs pg k)).body=[]++(nums 4 (nxt pg k).toNat++(prt zs k++List.replicate (248-(cpg zs pg k).body.length) 0)):=by
  show (nums 4 (nxt pg k).toNat++prt zs k)++_=_;rw [jX];rfl
 rw [e,h,numsZ (by have:(256:Nat)^4=4294967296:=rfl;omega)];omega
theorem part_cpg {zs pg:List Int} {k:Nat} (hb:Bys zs) (hok:CtOk pg) (hl:pg.length=ned zs.length) (hk:k<pg.length):
  ptE (sealL (cpg zs pg k))=0/\ptL (sealL (cpg zs pg k))=prt zs k/\ptN (sealL (cpg zs pg k))=nxt pg k:=by
 obtain ⟨h1,h2⟩:=fO (GN hb k) (cpg_ok zs pg k);have hX:=nxt_in hok k;have hm:=uI zs k;have hx:=nx_cpg (zs:=zs) hX;have hkz:k*244<zs.length:=by unfold ned at hl;omega
 have hB:ptB (padP (cpg zs pg k))=true:=by
  have hc:(padP (cpg zs pg k)).count=(prt zs k).length:=rfl;rw [UR rfl rfl (by rw [hc];omega) (by rw [hc];omega) ?_ (by rw [hx];exact hX.2) ?_,hc,jS]
  ·have e:(padP (cpg zs pg k)).body.drop (4+(prt zs k).length)=List.replicate (248-(cpg zs pg k).body.length) 0:=by
    show ((nums 4 (nxt pg k).toNat++prt zs k)++_).drop _=_;rw [List.drop_append_of_le_length (by rw [jN,yS];exact jB _),qW (by rw [jN,yS];exact jB _)];rfl
   rw [e];exact nou_zero _
  ·rw [hx];unfold nxt;split
   ·next h=>have:=(hok (k+1) h).1;omega
   ·omega
  ·rw [hx,hc];unfold nxt;intro h0;split at h0
   ·next h=>unfold ned at hl;omega
   ·exact absurd rfl h0
 have hE:ptE (sealL (cpg zs pg k))=0:=by unfold ptE;rw [if_pos h1,h2,hB];rfl
 refine ⟨hE,?_,?_⟩
 ·unfold ptL;rw [hE,if_pos rfl,h2];show (((nums 4 (nxt pg k).toNat++prt zs k)++_).drop 4).take ((prt zs k).length:Int).toNat=_;rw [jX,List.drop_left' (yS _ _),jS,List.take_left' rfl]
 ·unfold ptN;rw [hE,if_pos rfl,h2];exact hx
def ChAt (L:List Int) (t pg:List Int):Prop:=∀i,i<pg.length->pageOf L (pg.getD i 0).toNat=sealL (cpg t pg i)
def hd0 (pg:List Int):Int:=pg.getD 0 0
def natL (pg:List Int):List Nat:=pg.map Int.toNat
theorem chB_at {L:List Int} {t pg:List Int} (hb:Bys t) (hok:CtOk pg) (hl:pg.length=ned t.length) (hN:∀i,i<pg.length->pg.getD i 0<(pgN L:Int)) (h:ChAt L t pg):
  ∀(d i:Nat),i+d=pg.length->∀(f:Nat) (R:List Bool) (out:List Int),d<f->R.length=pgN L->(∀j,i<=j->j<pg.length->R.getD (pg.getD j 0).toNat false=false)->
   chB L f (if i<pg.length then pg.getD i 0 else 0) R out=some (mkR R (natL (pg.drop i)),out++t.drop (i*244)):=by
 intro d
 induction d with
 |zero=>
  intro i e f R out hf hR hfr;obtain ⟨f,rfl⟩:∃g,f=g+1:=⟨f-1,by omega⟩;rw [if_neg (by omega)];unfold chB natL;rw [if_pos rfl,qW (by omega),xR,gY,qW (by rw [hl] at e;unfold ned at e;omega),xW]
 |succ d ih=>
  intro i e f R out hf hR hfr;obtain ⟨f,rfl⟩:∃g,f=g+1:=⟨f-1,by omega⟩;have hil:i<pg.length:=by omega
  obtain ⟨p1,p2,p3⟩:=part_cpg (k:=i) hb hok hl hil;have hpi:=(hok i hil).1;have hpn:=hN i hil;rw [if_pos hil];unfold chB
  rw [if_neg (by omega),h i hil,if_pos (by
   unfold rcB;rw [hfr i (jB _) hil,p1,hR,jE (by omega:0<=pg.getD i 0),jE hpn];rfl),p2,p3]
  have hnx:nxt pg i=if i+1<pg.length then pg.getD (i+1) 0 else 0:=rfl
  rw [hnx,ih (i+1) (by omega) f _ _ (by omega) (by simpa using hR) (fun j h1 h2=>by
   have h3:=(hok j h2).1;have h4:=(hok j h2).2 i (by omega);have h5:=hN j h2;rw [YS (by omega),if_neg (by omega)];exact hfr j (by omega) h2)]
  rw [mkR_set,jX]
  have e2:prt t i++List.drop ((i+1)*244) t=List.drop (i*244) t:=by
   unfold prt;rw [Nat.succ_mul,<-List.drop_drop,xE]
  rw [e2]
  have e3:natL (pg.drop i)=(pg.getD i 0).toNat::natL (pg.drop (i+1)):=by
   unfold natL;rw [xY hil,qQ,jA,jC hil];rfl
  rw [e3]
theorem FL {L:List Int} {t pg:List Int} (hb:Bys t) (hok:CtOk pg) (hl:pg.length=ned t.length) (hN:∀i,i<pg.length->pg.getD i 0<(pgN L:Int)) (h:ChAt L t pg) {R:List Bool} (hR:R.length=pgN L)
  (hfr:∀j,j<pg.length->R.getD (pg.getD j 0).toNat false=false) (hle:pg.length<=pgN L):
  chB L (pgN L+1) (hd0 pg) R []=some (mkR R (natL pg),t):=by
 have:=chB_at hb hok hl hN h pg.length 0 (by omega) (pgN L+1) R [] (by omega) hR (fun j _ h2=>hfr j h2);rw [List.drop_zero,Nat.zero_mul,List.drop_zero,xN] at this;rw [<-this]
 congr 1
 unfold hd0;split
 ·rfl
 ·rw [jA,qD (by omega)];rfl
theorem vA (R:List Bool):(usedL R).length=(R.length+7)/8:=by
 unfold usedL;exact yY ..
theorem KX (R:List Bool):Bys (usedL R):=zZ _ _
def reaL (N:Nat) (tp A F:List Nat):List Bool:=mkR (mkR (mkR (List.replicate N false) tp) A) F
theorem VW (N:Nat) (tp A F:List Nat):(reaL N tp A F).length=N:=by simp [reaL,JB]
theorem uB {N:Nat} {tp A F:List Nat} {k:Nat} (hk:k<N):(reaL N tp A F).getD k false=(decide (k∈tp)||(decide (k∈A)||decide (k∈F))):=by
 unfold reaL;rw [QA (by simpa [JB] using hk),QA (by simpa [JB] using hk),QA (by simpa using hk)];rw [jA,xA,if_pos hk];simp [Bool.or_assoc]
theorem ct_le {pg:List Int} {N:Nat} (hok:CtOk pg) (hN:∀i,i<pg.length->pg.getD i 0<(N:Int)):pg.length<=N:=by
 have hnd:(natL pg).Nodup:=by
  unfold natL;rw [xU,List.pairwise_iff_getElem];intro i j hi hj hij e;rw [qU] at hi hj;rw [List.getElem_map,List.getElem_map] at e;have h1:=(hok i hi).1;have h2:=(hok j hj).1;have h3:=(hok j hj).2 i hij;rw [jA,jC hi] at h1 h3;rw [jA,jC hj] at h2 h3;simp only [qJ] at h1 h2 h3;omega
 have hsub:natL pg ⊆ List.range N:=fun k hk=>by
  unfold natL at hk;obtain ⟨z,hz,rfl⟩:=List.mem_map.1 hk;obtain ⟨i,hi,rfl⟩:=xV hz;have h1:=(hok i hi).1;have h2:=hN i hi;rw [jA,jC hi] at h1 h2;simp only [qJ] at h1 h2;rw [List.mem_range];omega
 have:=List.Nodup.length_le_of_subset hnd hsub;unfold natL at this;rw [qU,List.length_range] at this;exact this
theorem su_make {L:List Int} {S:Sp} {T:Tc} {st A F:List Int} (hp:S.p=(pgN L:Int)) (hT:SuOk L S T) (hst:Bys st)
  (hA:CtOk A) (hAl:A.length=ned st.length) (hAN:∀i,i<A.length->A.getD i 0<(pgN L:Int)) (hAc:ChAt L st A) (hs:S.s=hd0 A)
  (hF:CtOk F) (hFl:F.length=ned ((pgN L+7)/8)) (hFN:∀i,i<F.length->F.getD i 0<(pgN L:Int)) (hf:S.f=hd0 F)
  (hAT:∀k∈natL A,¬k∈T.tp++pgs T.pc) (hFT:∀k∈natL F,¬k∈T.tp++pgs T.pc/\¬k∈natL A)
  (hFc:ChAt L (usedL (reaL (pgN L) (T.tp++pgs T.pc) (natL A) (natL F))) F):
  Su L S ⟨S,-1,T.pc,txs L T.pc,st,rsB (reaL (pgN L) (T.tp++pgs T.pc) (natL A) (natL F)) (pgN L),S.h⟩:=by
 have memN:∀{pg:List Int} {j:Nat},j<pg.length->(pg.getD j 0).toNat∈natL pg:=fun {pg j} hj=>by
  unfold natL;refine List.mem_map.2 ⟨pg.getD j 0,?_,rfl⟩;rw [jA,jC hj];exact qB hj
 have hr:∀k,k<pgN L->(List.replicate (pgN L) false).getD k false=false:=fun k hk=>by
  rw [jA,xA,if_pos hk];rfl
 refine ⟨hp,T,mkR (mkR (List.replicate (pgN L) false) (T.tp++pgs T.pc)) (natL A),st,_,usedL (reaL (pgN L) (T.tp++pgs T.pc) (natL A) (natL F)),hT,?_,?_,rfl,rfl⟩
 ·rw [hs]
  exact FL hst hA hAl hAN hAc (by simp [rN,JB]) (fun j hj=>by
   have h1:=(hA j hj).1;have h2:=hAN j hj;unfold rN;rw [QA (by rw [jK];omega),hr _ (by omega),Bool.false_or];exact jH (hAT _ (memN hj))) (ct_le hA hAN)
 ·rw [hf]
  exact FL (KX _) hF (by rw [hFl,vA,VW]) hFN hFc (by simp [JB]) (fun j hj=>by
   have h1:=(hF j hj).1;have h2:=hFN j hj;obtain ⟨h3,h4⟩:=hFT _ (memN hj);rw [QA (by rw [JB,jK];omega),QA (by rw [jK];omega),hr _ (by omega),Bool.false_or,jH h3,jH h4];rfl) (ct_le hF hFN)
end Go.Proofs.YtaijfhadecennaaGreat.Oct
