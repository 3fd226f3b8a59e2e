/- Part of a proof. -/
import Derived.Test.YtaijfhadecennabGreatBj
namespace Go.Proofs.YtaijfhadecennabGreat.Oct
open Go.RowKit
theorem getI_bd {zs:List Int} (h:Bys zs) (p n:Int):0<=getI zs p n/\getI zs p n<=4611686018427387904:=by
 have:=uJ h p.toNat n.toNat;unfold getI;split
 ·unfold capI;split
  ·omega
  ·omega
 ·omega
def rcB (R:List Bool) (n:Int):Bool:=decide (0<=n)&&(decide (n<(R.length:Int))&&!R.getD n.toNat false)
def cnt (R:List Bool):Nat:=R.count true
def mkR (R:List Bool) (l:List Nat):List Bool:=R.mapIdx fun i b=>b||decide (i∈l)
theorem XA {R:List Bool} {n:Int} (h:rcB R n=true):0<=n/\n<(R.length:Int)/\R.getD n.toNat false=false:=by
 unfold rcB at h
 simpa using h
theorem zQ (R:List Bool) (l:List Nat):(mkR R l).length=R.length:=by simp [mkR]
theorem VM {X Y:List Bool} (hl:X.length=Y.length) (h:∀i,i<X.length->X.getD i false=Y.getD i false):X=Y:=by
 refine List.ext_getElem hl fun i h1 h2=>?_
 have:=h i h1;rw [jA,jA,jC h1,jC h2] at this;exact this
theorem JL {R:List Bool} {l:List Nat} {i:Nat} (hi:i<R.length):(mkR R l).getD i false=(R.getD i false||decide (i∈l)):=by
 unfold mkR;simp only [jA,List.getElem?_mapIdx,jC hi,yI,qG]
theorem XZ {R:List Bool} {n i:Nat} {b:Bool} (hi:i<R.length):(R.set n b).getD i false=if i=n then b else R.getD i false:=by
 rw [jA,xX,jA];by_cases h:n=i
 ·subst h;simp [hi]
 ·have h':¬i=n:=fun e=>h e.symm
  simp [h,h']
theorem fU (R:List Bool):mkR R []=R:=by
 refine VM (zQ ..) fun i hi=>?_
 rw [zQ] at hi;rw [JL hi];simp
theorem mkR_set {R:List Bool} {n:Nat} {l:List Nat}:mkR (R.set n true) l=mkR R (n::l):=by
 refine VM (by simp [zQ]) fun i hi=>?_
 rw [zQ,qC] at hi;rw [JL (by rw [qC];exact hi),JL hi,XZ hi];by_cases h:i=n
 ·subst h;simp
 ·simp [h]
theorem vU {R:List Bool} {n:Nat} (hn:n<R.length) (h:R.getD n false=false):cnt (R.set n true)=cnt R+1:=by
 unfold cnt
 have e:R[n]=false:=by
  rw [jA,jC hn] at h;exact h
 rw [List.count_set hn,e];simp
theorem XU (R:List Bool):cnt R<=R.length:=List.count_le_length
def chB (L:List Int):Nat->Int->List Bool->List Int->Option (List Bool × List Int)
 |0,_,_,_=>none
 |f+1,n,R,out=>if n=0 then some (R,out) else if (rcB R n&&decide (ptE (pageOf L n.toNat)=0))=true then chB L f (ptN (pageOf L n.toNat)) (R.set n.toNat true) (out++ptL (pageOf L n.toNat)) else none
theorem ptL_le {z:List Int}:(ptL z).length<=244:=by
 unfold ptL;split
 ·next e=>
  unfold ptE at e;split at e
  ·split at e
   ·next hb=>
    unfold ptB at hb;simp only [jN,jQ] at hb;have:=hb.2.2.1;rw [qJ];omega
   ·cases e
  ·contradiction
 ·simp
theorem ptN_in {z:List Int} (hz:Bys z):(ptN z=0\/2<=ptN z):=by
 unfold ptN;split
 ·next e=>
  unfold ptE at e;split at e
  ·split at e
   ·next hb=>
    unfold ptB at hb;simp only [jN,jQ] at hb;have h1:=hb.2.2.2.1.1;have h0:0<=nx (opP z):=by unfold nx;exact (getI_bd (YD hz) 0 4).1
    omega
   ·cases e
  ·contradiction
 ·exact .inl rfl
def kR (kd:List Int):List Bool:=kd.map fun z=>!(z==0)
theorem JM (kd:List Int):(kR kd).length=kd.length:=by simp [kR]
theorem GK {kd:List Int} {i:Nat} (hi:i<kd.length):(kR kd).getD i false=!(kd.getD i 0==0):=by
 unfold kR;rw [jA,qN,jC hi,jA,jC hi];rfl
theorem kR_set {kd:List Int} {n:Nat} {y:Int} (hy:y≠0):kR (kd.set n y)=(kR kd).set n true:=by
 unfold kR;rw [List.map_set]
 congr 1
 simpa using hy
theorem kR_mkd (kd:List Int) (tp xs:List Nat):kR (mkd kd tp xs)=mkR (kR kd) (tp++xs):=by
 refine VM (by rw [JM,zD,zQ,JM]) fun i hi=>?_
 rw [JM,zD] at hi;rw [GK (by rw [zD];exact hi),JK hi,JL (by rw [JM];exact hi),GK hi];by_cases h1:i∈tp
 ·simp [h1]
 ·by_cases h2:i∈xs
  ·simp [h1,h2]
  ·simp [h1,h2]
theorem kdB_kR {W:Wk} {n kd:Int} (hk:(kd==120)=false) (h2:2<=n):kdB W n kd=rcB (kR W.kd) n:=by
 unfold kdB rcB;rw [JM,hk,jF h2,jF (show (0:Int)<=n by omega)];by_cases h:n<(W.kd.length:Int)
 ·rw [GK (by omega)];simp
 ·rw [jM h];simp
theorem ch_goes {L:List Int} (hL:Bys L) {kd:Int} (hk:(kd==120)=false) (hk0:kd≠0):∀(f:Nat) (n:Int) (W:Wk) (out:List Int),W.bad=false->(n=0\/2<=n)->W.kd.length<=4096->W.kd.length<f+cnt (kR W.kd)->out.length<=244*cnt (kR W.kd)->
  (∃W' R' out',chB L f n (kR W.kd) out=some (R',out')/\chGo L kd f n W out=(W',out')/\W'.bad=false/\kR W'.kd=R'/\W'.kd.length=W.kd.length/\W'.pc=W.pc/\W'.tx=W.tx/\out'.length<=244*cnt R')\/(chB L f n (kR W.kd) out=none/\(chGo L kd f n W out).1.bad=true):=by
 intro f
 induction f with
 |zero=>
  intro n W out _ _ _ h;have:=XU (kR W.kd);rw [JM] at this;omega
 |succ f ih=>
  intro n W out hb hn h4 hf ho;have e1:chB L (f+1) n (kR W.kd) out=if n=0 then some (kR W.kd,out) else if (rcB (kR W.kd) n&&decide (ptE (pageOf L n.toNat)=0))=true then chB L f (ptN (pageOf L n.toNat)) ((kR W.kd).set n.toNat true) (out++ptL (pageOf L n.toNat)) else none:=rfl
  have e2:chGo L kd (f+1) n W out=if n=0\/W.bad=true then (W,out) else if (wpg W n kd).bad=true then (wpg W n kd,out) else
   chGo L kd f (ptN (pageOf L n.toNat)) {wpg W n kd with bad:=!(ptE (pageOf L n.toNat)==0)||decide (1048576<out.length+(ptL (pageOf L n.toNat)).length)} (out++ptL (pageOf L n.toNat)):=rfl
  by_cases h0:n=0
  ·left;rw [if_pos h0] at e1;rw [if_pos (.inl h0)] at e2;exact ⟨W,_,out,e1,e2,hb,rfl,rfl,rfl,rfl,ho⟩
  ·have hn2:2<=n:=by omega
   rw [if_neg h0] at e1;rw [if_neg (by rw [hb];simpa using h0)] at e2;have hkk:=kdB_kR (W:=W) hk hn2;cases hr:rcB (kR W.kd) n with
   |false=>
    right;rw [hr] at hkk e1;rw [wpg_no hkk,if_pos rfl] at e2;rw [e1,e2];exact ⟨by simp,rfl⟩
   |true=>
    rw [hr] at hkk e1;obtain ⟨r1,r2,r3⟩:=XA hr;rw [JM] at r2;rw [wpg_yes hkk] at e2;have hw1:({W with kd:=W.kd.set n.toNat kd}:Wk).bad=false:=hb;rw [if_neg (by rw [hw1];simp)] at e2;have hcs:=vU (R:=kR W.kd) (n:=n.toNat) (by rw [JM];omega) r3;have hcl:=XU ((kR W.kd).set n.toNat true);rw [qC,JM] at hcl;have hpl:=ptL_le (z:=pageOf L n.toNat);have hno:¬1048576<out.length+(ptL (pageOf L n.toNat)).length:=by omega
    rw [jM hno,Bool.or_false] at e2;rw [e1,e2];by_cases he:ptE (pageOf L n.toNat)=0
    ·rw [he,jF rfl];simp only [Bool.and_self,if_true,beq_self_eq_true,Bool.not_true];have hks:=kR_set (kd:=W.kd) (n:=n.toNat) hk0;rcases ih (ptN (pageOf L n.toNat)) {W with kd:=W.kd.set n.toNat kd,bad:=false} (out++ptL (pageOf L n.toNat)) rfl (ptN_in (JE hL _)) (by simp only [qC];exact h4) (by simp only [qC,hks];omega) (by simp only [hks,jO];omega) with ⟨W',R',out',i1,i2,i3,i4,i5,i6,i7,i8⟩|⟨i1,i2⟩
     ·left;simp only [hks] at i1;refine ⟨W',R',out',i1,i2,i3,i4,?_,i6,i7,i8⟩;rw [i5];simp
     ·right;simp only [hks] at i1;exact ⟨i1,i2⟩
    ·right;have he':(ptE (pageOf L n.toNat)==0)=false:=by simpa using he
     rw [jM he,he'];refine ⟨by simp,?_⟩;cases f with
     |zero=>rfl
     |succ f=>
      unfold chGo;rw [if_pos (.inr rfl)];rfl
def suT (L:List Int) (S:Sp):Option Tc:=if S.r=0 then some tc0 else tcT L (S.h-1).toNat true S.r
structure SuOk (L:List Int) (S:Sp) (T:Tc):Prop where
 t:suT L S=some T
 nd:T.tp.Nodup
 ap:∀n∈T.tp,¬n∈pgs T.pc
 pc:∀p∈T.pc,pcK L p=true
 b:T.s.b=S.b
 l:T.s.l=S.l
def usedL (R:List Bool):List Int:=bitsP (fun i=>decide (i<2)||R.getD i false) R.length
def rN (L:List Int):List Bool:=List.replicate (pgN L) false
def rsB (R:List Bool):Nat->List Int
 |0=>[]
 |k+1=>if R.getD k false=true then rsB R k++[(k:Int)] else rsB R k
def Su (L:List Int) (S:Sp) (r:Rp):Prop:=S.p=(pgN L:Int)/\∃T R2 st R3 fr,SuOk L S T/\chB L (pgN L+1) S.s (mkR (rN L) (T.tp++pgs T.pc)) []=some (R2,st)/\chB L (pgN L+1) S.f R2 []=some (R3,fr)/\fr=usedL R3/\r=⟨S,-1,T.pc,txs L T.pc,st,rsB R3 (pgN L),S.h⟩
theorem sm3_app (a b:List C4):sm3 (a++b)=addS (sm3 a) (sm3 b):=by
 simp [sm3,addS]
theorem tcK_sm {g:Int->Option Tc} (hg:∀n T,g n=some T->T.s=sm3 T.pc):∀(l:List C4) (T:Tc),tcK g l=some T->T.s=sm3 T.pc:=by
 intro l
 induction l with
 |nil=>
  intro T h;unfold tcK at h;simp only [jP] at h;subst h;rfl
 |cons k l ih=>
  intro T h;unfold tcK at h;split at h
  ·cases h
  ·next x hx=>
   split at h
   ·split at h
    ·cases h
    ·next y hy=>
     simp only [jP] at h;subst h;simp only [tcA];rw [sm3_app,hg _ _ hx,ih _ hy]
   ·cases h
theorem tcT_sm {L:List Int}:∀(lv:Nat) (root:Bool) (n:Int) (T:Tc),tcT L lv root n=some T->T.s=sm3 T.pc:=by
 intro lv
 induction lv with
 |zero=>
  intro root n T h;unfold tcT at h;split at h
  ·simp only [jP] at h;subst h;rfl
  ·cases h
 |succ lv ih=>
  intro root n T h;unfold tcT at h;split at h
  ·split at h
   ·cases h
   ·next y hy=>
    simp only [jP] at h;subst h;have:=tcK_sm (fun n T=>ih false n T) _ _ hy;exact this
  ·cases h
theorem suT_sm {L:List Int} {S:Sp} {T:Tc} (h:suT L S=some T):T.s=sm3 T.pc:=by
 unfold suT at h;split at h
 ·simp only [jP] at h;subst h;rfl
 ·exact tcT_sm _ _ _ _ h
theorem suT_in {L:List Int} (hL:Bys L) {S:Sp} {T:Tc} (h:suT L S=some T):TcIn (pgN L) T:=by
 unfold suT at h;split at h
 ·simp only [jP] at h;subst h;exact ⟨fun n hn=>(by cases hn),fun n hn=>(by cases hn)⟩
 ·exact tcT_in hL _ _ _ _ h
theorem txs_len {L:List Int}:∀(l:List C4),(∀p∈l,okC false p=true)->(∀p∈l,pcK L p=true)->((txs L l).length:Int)=(l.map (·.c)).sum:=by
 intro l
 induction l with
 |nil=>intro _ _;rfl
 |cons p l ih=>
  intro h1 h2;have hp:=h2 p (xU ..);unfold pcK at hp;simp only [jN,jQ] at hp;have hb:=okC_bd (h1 p (xU ..));have hl:=seg_len hb.2.1.1 (by omega) hp.2.2.1;have:=ih (fun q hq=>h1 q (jL _ hq)) (fun q hq=>h2 q (jL _ hq));simp only [txs,List.flatMap_cons,jO,qO,List.sum_cons] at this ⊢;unfold pcT at this ⊢;omega
theorem VU {L:List Int} {kd:Int} {f:Nat} {n:Int} {W:Wk} {out:List Int} (h:W.bad=true):chGo L kd f n W out=(W,out):=by
 cases f with
 |zero=>rfl
 |succ f=>unfold chGo;rw [if_pos (.inr h)]
theorem chB_bys {L:List Int} (hL:Bys L):∀(f:Nat) (n:Int) (R:List Bool) (out:List Int) (x:List Bool × List Int),Bys out->chB L f n R out=some x->Bys x.2/\x.1.length=R.length:=by
 intro f
 induction f with
 |zero=>intro n R out x _ h;cases h
 |succ f ih=>
  intro n R out x ho h;unfold chB at h;split at h
  ·simp only [jP] at h;subst h;exact ⟨ho,rfl⟩
  ·split at h
   ·have:=ih _ _ _ _ (ho.app ?_) h
    ·rw [qC] at this;exact this
    ·unfold ptL;split
     ·intro z hz;exact YD (JE hL _) z (jY (jT hz))
     ·intro z hz;cases hz
   ·cases h
theorem wk0_kR (L:List Int):kR (wk0 (pgN L)).kd=rN L:=by
 unfold kR wk0 rN;simp
theorem wk0_at (N i:Nat):(wk0 N).kd.getD i 0=0:=by
 unfold wk0;simp only [jA,qU];split<;>rfl
theorem rs_eq (kd:List Int):∀k,k<=kd.length->rsg kd k=rsB (kR kd) k:=by
 intro k
 induction k with
 |zero=>intro _;rfl
 |succ k ih=>
  intro hk;unfold rsg rsB;rw [ih (by omega),GK (by omega)];by_cases h:kd.getD k 0=0
  ·rw [if_pos h,if_neg (by rw [h];simp)]
  ·rw [if_neg h,if_pos (by simpa using h)]
theorem fr_iff {fr kd:List Int} {N:Nat} (hf:Bys fr) (hk:kd.length=N):
  (decide (fr.length=(N+7)/8)&&(List.range (fr.length*8)).all (frB fr kd N))=true↔fr=usedL (kR kd):=by
 have key:∀i,(decide (i<2)||(decide (i<N)&&!(kd.getD i 0==0)))=(decide (i<2)||(kR kd).getD i false):=fun i=>by
  by_cases hi:i<N
  ·rw [GK (by omega),jF hi,yE]
  ·rw [jM hi]
   have:(kR kd).getD i false=false:=by
    rw [jA,jX (by rw [JM];omega)];rfl
   rw [this];rfl
 constructor
 ·intro h;rw [jN,jQ] at h;rw [<-VZ hf h.1];unfold usedL;rw [JM,hk];refine zA fun i hi=>?_
  have:=List.all_eq_true.1 h.2 i (by rw [List.mem_range,h.1];exact hi);unfold frB at this;rw [key,beq_iff_eq] at this;exact this
 ·intro h;have hl:fr.length=(N+7)/8:=by rw [h];unfold usedL;rw [yT,JM,hk]
  rw [jN,jQ];refine ⟨hl,List.all_eq_true.2 fun i hi=>?_⟩;rw [List.mem_range,hl] at hi;unfold frB;rw [key,beq_iff_eq,h];unfold usedL;rw [XH (by rw [JM,hk];exact hi)]
theorem suOk_fit {L:List Int} (hL:Bys L) {S:Sp} (hS:okS S=true) {T:Tc} (h:SuOk L S T):Fit L (wk0 (pgN L)) T:=by
 refine ⟨⟨h.nd,fun n _=>wk0_at _ _,fun x _=>.inl (wk0_at _ _),h.ap⟩,h.pc,?_⟩;have h1:=txs_len T.pc (suT_in hL h.t).2 h.pc;have h2:=suT_sm h.t;have h3:=h.b;rw [h2] at h3;simp only [sm3] at h3;unfold okS fitS at hS;simp only [jN,jQ] at hS;have:(wk0 (pgN L)).tx++txs L T.pc=txs L T.pc:=rfl;rw [this];omega
theorem fit_suOk {L:List Int} {S:Sp} {T:Tc} (ht:suT L S=some T) (h:Fit L (wk0 (pgN L)) T) (hb:T.s.b=S.b) (hl:T.s.l=S.l):SuOk L S T:=
 ⟨ht,h.vd.nd,h.vd.ap,h.pc,hb,hl⟩
theorem su_wa {L:List Int} (hL:Bys L) (h4:pgN L<=4096) {S:Sp} (hS:okS S=true):(waE L S=0/\Su L S (waR L S))\/(waE L S=8/\∀r,¬Su L S r):=by
 by_cases hp:S.p=(pgN L:Int)
 case neg=>
  right;exact ⟨by unfold waE;rw [if_pos hS,if_neg hp],fun r h=>hp h.1⟩
 have hS':=hS;unfold okS fitS ldB at hS';simp only [jN,jQ] at hS';have hs2:S.s=0\/2<=S.s:=by omega
 have hf2:S.f=0\/2<=S.f:=by omega
 have hE:waE L S=if waB L S=true then 0 else 8:=by unfold waE;rw [if_pos hS,if_pos hp]
 have hN:8<=pgN L:=by omega
 have hbadE:(wkD L S).1.bad=true->waE L S=8:=fun h=>by
  rw [hE];unfold waB;rw [h];rfl
 have hlen0:(wk0 (pgN L)).kd.length=pgN L:=by simp [wk0]
 have hA:Goes L (wk0 (pgN L)) (suT L S) (wkA L S):=by
  unfold suT wkA;split
  ·exact .inl ⟨tc0,rfl,FC (by simp [wk0]) _,by rw [show tc0=⟨[],[],s30⟩ from rfl,ap_nil rfl]⟩
  ·exact wtr_goes hL _ _ _ _ rfl hlen0 (by simp [wk0])
 have hAbad:(wkB L S).bad=true->(wkD L S).1.bad=true:=fun h=>by
  have h1:wkC L S=(wkB L S,[]):=by unfold wkC;exact VU h
  unfold wkD;rw [h1,VU h];exact h
 rcases hA with ⟨T,ht,hF,hx⟩|⟨hb,hno⟩
 ·by_cases hsum:T.s.b=S.b/\T.s.l=S.l
  ·have hok:=fit_suOk ht hF hsum.1 hsum.2
   have hB:wkB L S=apW L (wk0 (pgN L)) T:=by
    unfold wkB;rw [hx];simp only;rw [hsum.1,hsum.2];simp [apW]
   have hBl:(wkB L S).kd.length=pgN L:=by rw [hB];unfold apW;rw [zD,hlen0]
   have hBk:kR (wkB L S).kd=mkR (rN L) (T.tp++pgs T.pc):=by rw [hB];unfold apW;rw [kR_mkd,wk0_kR]
   have hBb:(wkB L S).bad=false:=by rw [hB];rfl
   rcases ch_goes hL (kd:=115) (by decide) (by decide) (pgN L+1) S.s (wkB L S) [] hBb hs2 (by omega) (by omega) (by simp) with ⟨W2,R2,st,i1,i2,i3,i4,i5,i6,i7,-⟩|⟨i1,i2⟩
   ·have hC:wkC L S=(W2,st):=i2;rcases ch_goes hL (kd:=102) (by decide) (by decide) (pgN L+1) S.f W2 [] i3 hf2 (by omega) (by omega) (by simp) with ⟨W3,R3,fr,j1,j2,j3,j4,j5,j6,j7,-⟩|⟨j1,j2⟩
    ·have hD:wkD L S=(W3,fr):=by unfold wkD;rw [hC];exact j2
     rw [hBk] at i1;rw [i4] at j1;have hfb:=chB_bys hL _ _ _ _ _ (fun z hz=>(by cases hz)) j1;have hW3:W3.kd.length=pgN L:=by rw [j5,i5,hBl]
     have hfi:=fr_iff hfb.1 hW3
     have hwb:waB L S=true↔fr=usedL R3:=by
      unfold waB;rw [hD];simp only;rw [j3,Bool.not_false,yE,hfi,j4]
     by_cases hu:fr=usedL R3
     ·left;have hE0:waE L S=0:=by rw [hE,if_pos (hwb.2 hu)]
      refine ⟨hE0,hp,T,R2,st,R3,fr,hok,i1,j1,hu,?_⟩;unfold waR;rw [if_pos hE0,hD,hC];simp only;rw [j6,i6,j7,i7,hB,rs_eq _ _ (by omega),j4];rfl
     ·right;refine ⟨by rw [hE,if_neg (fun e=>hu (hwb.1 e))],fun r hr=>hu ?_⟩;obtain ⟨-,T',R2',st',R3',fr',k1,k2,k3,k4,-⟩:=hr;have:T'=T:=yC (k1.t.symm.trans ht);subst this;rw [i1] at k2;simp only [jP,xW] at k2;obtain ⟨rfl,rfl⟩:=k2;rw [j1] at k3;simp only [jP,xW] at k3;obtain ⟨rfl,rfl⟩:=k3;exact k4
    ·right;have hD:(wkD L S).1.bad=true:=by unfold wkD;rw [hC];exact j2
     refine ⟨hbadE hD,fun r hr=>?_⟩;obtain ⟨-,T',R2',st',R3',fr',k1,k2,k3,k4,-⟩:=hr;have:T'=T:=yC (k1.t.symm.trans ht);subst this;rw [hBk] at i1;rw [i1] at k2;simp only [jP,xW] at k2;obtain ⟨rfl,rfl⟩:=k2;rw [i4] at j1;rw [j1] at k3;cases k3
   ·right;have hC:(wkC L S).1.bad=true:=i2;have hD:(wkD L S).1.bad=true:=by unfold wkD;rw [VU hC];exact hC
    refine ⟨hbadE hD,fun r hr=>?_⟩;obtain ⟨-,T',R2',st',R3',fr',k1,k2,k3,k4,-⟩:=hr;have:T'=T:=yC (k1.t.symm.trans ht);subst this;rw [hBk] at i1;rw [i1] at k2;cases k2
  ·right
   have hB:(wkB L S).bad=true:=by
    unfold wkB;rw [hx];simp only
    have:(T.s.b==S.b&&T.s.l==S.l)=false:=by
     rw [Bool.and_eq_false_iff];by_cases h1:T.s.b=S.b
     ·right;have:¬T.s.l=S.l:=fun h2=>hsum ⟨h1,h2⟩
      simpa using this
     ·left
      simpa using h1
    rw [this];simp
   refine ⟨hbadE (hAbad hB),fun r hr=>hsum ?_⟩;obtain ⟨-,T',R2',st',R3',fr',k1,-⟩:=hr;have:T'=T:=yC (k1.t.symm.trans ht);subst this;exact ⟨k1.b,k1.l⟩
 ·right;have hB:(wkB L S).bad=true:=by unfold wkB;simp only;rw [hb];rfl
  refine ⟨hbadE (hAbad hB),fun r hr=>?_⟩;obtain ⟨-,T',R2',st',R3',fr',k1,-⟩:=hr;exact hno T' k1.t (suOk_fit hL hS k1)
theorem tcK_loc {Q:Nat->Prop} {f g:Int->Option Tc} (hfg:∀n T,f n=some T->(∀k∈T.tp,Q k)->g n=some T):
  ∀(l:List C4) (T:Tc),tcK f l=some T->(∀k∈T.tp,Q k)->tcK g l=some T:=by
 intro l
 induction l with
 |nil=>intro T h _;exact h
 |cons a l ih=>
  intro T h hq;unfold tcK at h ⊢;cases hx:f a.a with
  |none=>rw [hx] at h;cases h
  |some x=>
   rw [hx] at h;simp only at h;split at h
   ·next hk=>
    cases hy:tcK f l with
    |none=>rw [hy] at h;cases h
    |some y=>
     rw [hy] at h;cases h;have q1:∀k∈x.tp,Q k:=fun k hk=>hq k (qK _ hk)
     have q2:∀k∈y.tp,Q k:=fun k hk=>hq k (qI _ hk)
     rw [hfg _ _ hx q1];simp only;rw [if_pos hk,ih y hy q2]
   ·cases h
theorem tcT_loc {L M:List Int} (hn:pgN M=pgN L):∀(lv:Nat) (root:Bool) (n:Int) (T:Tc),tcT L lv root n=some T->(∀k∈T.tp,pageOf M k=pageOf L k)->tcT M lv root n=some T:=by
 intro lv
 induction lv with
 |zero=>
  intro root n T h hq;unfold tcT at h ⊢;split at h
  ·next hc=>
   cases h;have e:=hq n.toNat (by simp);rw [hn,e,if_pos hc]
  ·cases h
 |succ lv ih=>
  intro root n T h hq;unfold tcT at h ⊢;split at h
  ·next hc=>
   cases hy:tcK (tcT L lv false) (reL true (pageOf L n.toNat)) with
   |none=>rw [hy] at h;cases h
   |some y=>
    rw [hy] at h;cases h;have e:=hq n.toNat (by simp);rw [hn,e,if_pos hc,tcK_loc (Q:=fun k=>pageOf M k=pageOf L k) (fun n T=>ih false n T) _ y hy (fun k hk=>hq k (jL _ hk))]
  ·cases h
theorem VW {L:List Int}:∀(f:Nat) (n:Int) (R:List Bool) (out:List Int) (x:List Bool × List Int),chB L f n R out=some x->x.1.length=R.length/\∀k,R.getD k false=true->x.1.getD k false=true:=by
 intro f
 induction f with
 |zero=>intro n R out x h;cases h
 |succ f ih=>
  intro n R out x h;unfold chB at h;split at h
  ·cases h;exact ⟨rfl,fun _ h=>h⟩
  ·split at h
   ·obtain ⟨h1,h2⟩:=ih _ _ _ _ h;refine ⟨by rw [h1,qC],fun k hk=>h2 k ?_⟩;by_cases hl:k<R.length
    ·rw [XZ hl];split
     ·rfl
     ·exact hk
    ·rw [jA,jX (by omega)] at hk;cases hk
   ·cases h
theorem chB_loc {L M:List Int}:∀(f:Nat) (n:Int) (R:List Bool) (out:List Int) (x:List Bool × List Int),chB L f n R out=some x->(∀k,x.1.getD k false=true->pageOf M k=pageOf L k)->chB M f n R out=some x:=by
 intro f
 induction f with
 |zero=>intro n R out x h;cases h
 |succ f ih=>
  intro n R out x h hq;unfold chB at h ⊢;split at h
  ·next h0=>rw [if_pos h0];exact h
  ·next h0=>
   split at h
   ·next hc=>
    have hr:=(XA (R:=R) (n:=n) (by rw [jN] at hc;exact hc.1));have hs:x.1.getD n.toNat false=true:=(VW _ _ _ _ _ h).2 _ (by rw [XZ (by omega),if_pos rfl]);rw [if_neg h0,hq _ hs,if_pos hc];exact ih _ _ _ _ h hq
   ·cases h
theorem rsB_mem {R:List Bool} (k:Nat):∀n,(k:Int)∈rsB R n↔k<n/\R.getD k false=true:=by
 intro n
 induction n with
 |zero=>simp [rsB]
 |succ n ih=>
  unfold rsB;by_cases h:R.getD n false=true
  ·rw [if_pos h,qR,ih];constructor
   ·rintro (h1|h1)
    ·exact ⟨by omega,h1.2⟩
    ·have:k=n:=by
      have h2:(k:Int)=(n:Int):=by simpa using h1
      omega
     subst this;exact ⟨by omega,h⟩
   ·rintro ⟨h1,h2⟩;by_cases e:k=n
    ·subst e;exact .inr (by simp)
    ·exact .inl ⟨by omega,h2⟩
  ·rw [if_neg h,ih];constructor
   ·rintro ⟨h1,h2⟩;exact ⟨by omega,h2⟩
   ·rintro ⟨h1,h2⟩;refine ⟨?_,h2⟩;by_cases e:k=n
    ·subst e;exact absurd h2 h
    ·omega
theorem rsB_all {R:List Bool}:∀n,∀z∈rsB R n,∃k:Nat,z=(k:Int)/\k<n:=by
 intro n
 induction n with
 |zero=>intro z hz;simp [rsB] at hz
 |succ n ih=>
  intro z hz;unfold rsB at hz;split at hz
  ·rcases List.mem_append.1 hz with h|h
   ·obtain ⟨k,e,h⟩:=ih z h;exact ⟨k,e,by omega⟩
   ·exact ⟨n,by simpa using h,by omega⟩
  ·obtain ⟨k,e,h⟩:=ih z hz;exact ⟨k,e,by omega⟩
theorem mkR_yes {R:List Bool} {l:List Nat} {k:Nat} (hk:k<R.length) (h:k∈l):(mkR R l).getD k false=true:=by
 rw [JL hk];simp [h]
theorem su_loc {L M:List Int} (hL:Bys L) {S:Sp} {r:Rp} (h:Su L S r) (hl:M.length=L.length) (hq:∀k:Nat,(k:Int)∈r.pg->pageOf M k=pageOf L k):Su M S r:=by
 obtain ⟨hp,T,R2,st,R3,fr,hT,h1,h2,h3,rfl⟩:=h;have hn:pgN M=pgN L:=by unfold pgN;rw [hl]
 have hrN:rN M=rN L:=by unfold rN;rw [hn]
 obtain ⟨l2,m2⟩:=VW _ _ _ _ _ h1;obtain ⟨l3,m3⟩:=VW _ _ _ _ _ h2;rw [zQ] at l2;have hr0:(rN L).length=pgN L:=by unfold rN;rw [jJ]
 have q3:∀k,R3.getD k false=true->pageOf M k=pageOf L k:=fun k hk=>by
  refine hq k ((rsB_mem k _).2 ⟨?_,hk⟩);by_cases hlt:k<R3.length
  ·rw [l3,l2,hr0] at hlt;exact hlt
  ·rw [jA,jX (by omega)] at hk;cases hk
 have q2:∀k,R2.getD k false=true->pageOf M k=pageOf L k:=fun k hk=>q3 k (m3 k hk)
 have hin:=suT_in hL hT.t;have q0:∀k∈T.tp++pgs T.pc,k<pgN L->pageOf M k=pageOf L k:=fun k hk hlt=>q2 k (m2 k (mkR_yes (by rw [hr0];exact hlt) hk))
 have qt:∀k∈T.tp,pageOf M k=pageOf L k:=fun k hk=>q0 k (qK _ hk) (hin.1 k hk).2
 have qp:∀p∈T.pc,pageOf M p.a.toNat=pageOf L p.a.toNat:=fun p hp=>q0 _ (qI _ (List.mem_map.2 ⟨p,hp,rfl⟩)) (by
  have:=hT.pc p hp;unfold pcK inR at this;simp only [jN,jQ] at this;omega)
 have hpc:∀p∈T.pc,pcK M p=pcK L p:=fun p hp=>by unfold pcK;rw [hn,qp p hp]
 have htx:txs M T.pc=txs L T.pc:=by
  unfold txs;rw [List.flatMap_def,List.flatMap_def,qW (g:=pcT L) fun p hp=>by unfold pcT;rw [qp p hp]]
 refine ⟨by rw [hn];exact hp,T,R2,st,R3,fr,⟨?_,hT.nd,hT.ap,fun p hp=>by rw [hpc p hp];exact hT.pc p hp,hT.b,hT.l⟩,?_,?_,h3,?_⟩
 ·have:=hT.t;unfold suT at this ⊢;split
  ·next h0=>rw [if_pos h0] at this;exact this
  ·next h0=>
   rw [if_neg h0] at this;exact tcT_loc hn _ _ _ _ this qt
 ·rw [hn,hrN];exact chB_loc _ _ _ _ _ h1 q2
 ·rw [hn];exact chB_loc _ _ _ _ _ h2 q3
 ·rw [hn,htx]
def mixP (a b:List Int) (c:Int):List Int:=(List.range 256).map fun i=>if bitAt c (i/64)=true then b.getD i 0 else a.getD i 0
theorem VC (a b:List Int) (c:Int):(mixP a b c).length=256:=by simp [mixP]
theorem mixP_at (a b:List Int) (c:Int) {i:Nat} (hi:i<256):(mixP a b c).getD i 0=if bitAt c (i/64)=true then b.getD i 0 else a.getD i 0:=by
 unfold mixP;rw [jA,qN,List.getElem?_range hi];rfl
theorem pg_len {L:List Int} {k:Nat} (h:k*256+256<=L.length):(pageOf L k).length=256:=by simp [pageOf];omega
theorem pg_at (L:List Int) (k i:Nat) (hi:i<256):(pageOf L k).getD i 0=L.getD (k*256+i) 0:=by
 simp [pageOf,hi]
theorem pg_onto {L b:List Int} {pg k:Nat} {c:Int} (hk:k*256+256<=L.length):pageOf (onto L pg b c) k=if k=pg then mixP (pageOf L k) b c else pageOf L k:=by
 have hl:(pageOf (onto L pg b c) k).length=256:=pg_len (by rw [QS];exact hk);refine yV ?_ fun i hi=>?_
 ·rw [hl];split
  ·rw [VC]
  ·exact (pg_len hk).symm
 rw [hl] at hi;rw [pg_at _ _ _ hi];unfold onto;rw [JV _ _ _ _ _ _ (by omega),show (k*256+i)/256=k by omega,show (k*256+i)%256=i by omega];by_cases h:k=pg
 ·rw [if_pos h,mixP_at _ _ _ hi,pg_at _ _ _ hi];by_cases hb:bitAt c (i/64)=true
  ·rw [if_pos ⟨h,by omega,hb⟩,if_pos hb]
  ·rw [if_neg (fun x=>hb x.2.2),if_neg hb]
 ·rw [if_neg (fun x=>h x.1),if_neg h,pg_at _ _ _ hi]
theorem pg_fall {L:List Int} {l:List (Nat × List Int)} {k:Nat} {Q:List Int->Prop} (ch:List Int) (hk:k*256+256<=L.length) (h0:Q (pageOf L k))
  (hm:∀a b c,Q a->Q b->Q (mixP a b c)) (hl:∀x∈l,x.1=k->Q x.2):∀m,m<=l.length->Q (pageOf (fallK L l ch m) k):=by
 intro m
 induction m with
 |zero=>intro _;exact h0
 |succ m ih=>
  intro hm';unfold fallK;rw [pg_onto (by rw [zX];exact hk)]
  have e:l.getD m (0,[])∈l:=by
   rw [jA,jC (by omega)];exact qA _
  split
  ·next h=>exact hm _ _ _ (ih (by omega)) (hl _ e h.symm)
  ·exact ih (by omega)
theorem UU {L:List Int} {l:List (Nat × List Int)} {k:Nat} (ch:List Int) (hk:k*256+256<=L.length) (hl:∀x∈l,x.1≠k):∀m,m<=l.length->pageOf (fallK L l ch m) k=pageOf L k:=by
 intro m
 induction m with
 |zero=>intro _;rfl
 |succ m ih=>
  intro hm';unfold fallK;rw [pg_onto (by rw [zX];exact hk)]
  have e:l.getD m (0,[])∈l:=by
   rw [jA,jC (by omega)];exact qA _
  rw [if_neg (fun h=>hl _ e h.symm)];exact ih (by omega)
theorem fall_app {L:List Int} {l m:List (Nat × List Int)} {ch:List Int}:∀k,k<=l.length->fallK L (l++m) ch k=fallK L l ch k:=by
 intro k
 induction k with
 |zero=>intro _;rfl
 |succ k ih=>
  intro hk;unfold fallK;rw [ih (by omega)]
  have e:(l++m).getD k (0,[])=l.getD k (0,[]):=by
   rw [jA,jA,xC (by omega)]
  rw [e]
def Sbz (z:List Int):Prop:=z.length=256/\∀i,64<=i->i<256->z.getD i 0=0
theorem mix_sbz {a b:List Int} (ha:Sbz a) (hb:Sbz b) (c:Int):mixP a b c=if bitAt c 0=true then b else a:=by
 refine yV (by rw [VC];split;exact hb.1.symm;exact ha.1.symm) fun i hi=>?_
 rw [VC] at hi;rw [mixP_at _ _ _ hi];by_cases h64:64<=i
 ·rw [ha.2 i h64 hi,hb.2 i h64 hi,ite_self];split
  ·rw [hb.2 i h64 hi]
  ·rw [ha.2 i h64 hi]
 ·rw [show i/64=0 by omega];split<;>rfl
theorem seal_sbz (S:Sp):Sbz (sealL (pgS S)):=by
 have hp:=JT S 8 (by omega);refine ⟨ZE (by show (preS S 8).length<=248;rw [hp];decide),fun i h1 h2=>?_⟩
 have e:sealL (pgS S)=(nums 4 (crc (tailP (pgS S))).toNat++(nums 1 (pgS S).kind.toNat++nums 1 (pgS S).level.toNat++nums 2 (pgS S).count.toNat++preS S 8))++List.replicate (248-(preS S 8).length) 0:=by
  unfold sealL tailP;rw [show (pgS S).body=preS S 8 from rfl,<-jU]
 have hl:(nums 4 (crc (tailP (pgS S))).toNat++(nums 1 (pgS S).kind.toNat++nums 1 (pgS S).level.toNat++nums 2 (pgS S).count.toNat++preS S 8)).length=42:=by
  simp only [jO,yM,hp];rfl
 rw [e,QG,if_neg (by rw [hl];omega),hl,jA,qU];split<;>rfl
theorem en_seal {S:Sp} (h:okS S=true):enZ S=sealL (pgS S):=by unfold enZ;rw [if_pos h]
theorem uM {S:Sp} (h:okS S=true):Sbz (enZ S):=by rw [en_seal h];exact seal_sbz S
theorem en_dec {S:Sp} (h:okS S=true):deE (enZ S)=0/\deS (enZ S)=S:=by
 rw [en_seal h];exact ⟨(dec_enc h).2.2.1,(dec_enc h).2.2.2⟩
theorem nou_sbz:Sbz (List.replicate 256 0):=⟨jJ,fun i h1 h2=>by rw [jA,qU];split<;>rfl⟩
end Go.Proofs.YtaijfhadecennabGreat.Oct
