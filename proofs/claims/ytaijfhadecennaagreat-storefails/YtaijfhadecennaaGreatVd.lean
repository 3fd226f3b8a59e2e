/- Part of a proof. -/
import Derived.Test.YtaijfhadecennaaGreatBm
namespace Go.Proofs.YtaijfhadecennaaGreat.Oct
open Go.RowKit
def suT (L:List Int) (S:Sp):Option Tc:=if S.r=0 then some tc0 else tcT L (S.h-1).toNat true S.r
structure SuOk (L:List Int) (S:Sp) (T:Tc):Prop where
 t:suT L S=some T
 nd:T.tp.Nodup
 ap:∀n∈T.tp,¬n∈pgs T.pc
 pc:∀p∈T.pc,pcK L p=true
 b:T.s.b=S.b
 l:T.s.l=S.l
def usedL (R:List Bool):List Int:=bitsP (fun i=>decide (i<2)||R.getD i false) R.length
def rN (L:List Int):List Bool:=List.replicate (pgN L) false
def rsB (R:List Bool):Nat->List Int
 |0=>[]
 |k+1=>if R.getD k false=true then rsB R k++[(k:Int)] else rsB R k
def Su (L:List Int) (S:Sp) (r:Rp):Prop:=S.p=(pgN L:Int)/\∃T R2 st R3 fr,SuOk L S T/\chB L (pgN L+1) S.s (mkR (rN L) (T.tp++pgs T.pc)) []=some (R2,st)/\chB L (pgN L+1) S.f R2 []=some (R3,fr)/\fr=usedL R3/\r=⟨S,-1,T.pc,txs L T.pc,st,rsB R3 (pgN L),S.h⟩
theorem sm3_app (a b:List C4):sm3 (a++b)=addS (sm3 a) (sm3 b):=by
 simp [sm3,addS]
theorem tcK_sm {g:Int->Option Tc} (hg:∀n T,g n=some T->T.s=sm3 T.pc):∀(l:List C4) (T:Tc),tcK g l=some T->T.s=sm3 T.pc:=by
 intro l
 induction l with
 |nil=>
  intro T h;unfold tcK at h;simp only [jQ] at h;subst h;rfl
 |cons k l ih=>
  intro T h;unfold tcK at h;split at h
  ·cases h
  ·next x hx=>
   split at h
   ·split at h
    ·cases h
    ·next y hy=>
     simp only [jQ] at h;subst h;simp only [tcA];rw [sm3_app,hg _ _ hx,ih _ hy]
   ·cases h
theorem tcT_sm {L:List Int}:∀(lv:Nat) (root:Bool) (n:Int) (T:Tc),tcT L lv root n=some T->T.s=sm3 T.pc:=by
 intro lv
 induction lv with
 |zero=>
  intro root n T h;unfold tcT at h;split at h
  ·simp only [jQ] at h;subst h;rfl
  ·cases h
 |succ lv ih=>
  intro root n T h;unfold tcT at h;split at h
  ·split at h
   ·cases h
   ·next y hy=>
    simp only [jQ] at h;subst h;have:=tcK_sm (fun n T=>ih false n T) _ _ hy;exact this
  ·cases h
theorem suT_sm {L:List Int} {S:Sp} {T:Tc} (h:suT L S=some T):T.s=sm3 T.pc:=by
 unfold suT at h;split at h
 ·simp only [jQ] at h;subst h;rfl
 ·exact tcT_sm _ _ _ _ h
theorem suT_in {L:List Int} (hL:Bys L) {S:Sp} {T:Tc} (h:suT L S=some T):TcIn (pgN L) T:=by
 unfold suT at h;split at h
 ·simp only [jQ] at h;subst h;exact ⟨fun n hn=>(by cases hn),fun n hn=>(by cases hn)⟩
 ·exact tcT_in hL _ _ _ _ h
theorem txs_len {L:List Int}:∀(l:List C4),(∀p∈l,okC false p=true)->(∀p∈l,pcK L p=true)->((txs L l).length:Int)=(l.map (·.c)).sum:=by
 intro l
 induction l with
 |nil=>intro _ _;rfl
 |cons p l ih=>
  intro h1 h2;have hp:=h2 p (yB ..);unfold pcK at hp;simp only [jO,jR] at hp;have hb:=okC_bd (h1 p (yB ..));have hl:=seg_len hb.2.1.1 (by omega) hp.2.2.1;have:=ih (fun q hq=>h1 q (jM _ hq)) (fun q hq=>h2 q (jM _ hq));simp only [txs,List.flatMap_cons,jN,qQ,List.sum_cons] at this ⊢;unfold pcT at this ⊢;omega
theorem KH {L:List Int} {kd:Int} {f:Nat} {n:Int} {W:Wk} {out:List Int} (h:W.bad=true):chGo L kd f n W out=(W,out):=by
 cases f with
 |zero=>rfl
 |succ f=>unfold chGo;rw [if_pos (.inr h)]
theorem chB_bys {L:List Int} (hL:Bys L):∀(f:Nat) (n:Int) (R:List Bool) (out:List Int) (x:List Bool × List Int),Bys out->chB L f n R out=some x->Bys x.2/\x.1.length=R.length:=by
 intro f
 induction f with
 |zero=>intro n R out x _ h;cases h
 |succ f ih=>
  intro n R out x ho h;unfold chB at h;split at h
  ·simp only [jQ] at h;subst h;exact ⟨ho,rfl⟩
  ·split at h
   ·have:=ih _ _ _ _ (ho.app ?_) h
    ·rw [jY] at this;exact this
    ·unfold ptL;split
     ·intro z hz;exact XA (JI hL _) z (jV (jU hz))
     ·intro z hz;cases hz
   ·cases h
theorem wk0_kR (L:List Int):kR (wk0 (pgN L)).kd=rN L:=by
 unfold kR wk0 rN;simp
theorem wk0_at (N i:Nat):(wk0 N).kd.getD i 0=0:=by
 unfold wk0;simp only [jA,xA];split<;>rfl
theorem rs_eq (kd:List Int):∀k,k<=kd.length->rsg kd k=rsB (kR kd) k:=by
 intro k
 induction k with
 |zero=>intro _;rfl
 |succ k ih=>
  intro hk;unfold rsg rsB;rw [ih (by omega),kR_at (by omega)];by_cases h:kd.getD k 0=0
  ·rw [if_pos h,if_neg (by rw [h];simp)]
  ·rw [if_neg h,if_pos (by simpa using h)]
theorem fr_iff {fr kd:List Int} {N:Nat} (hf:Bys fr) (hk:kd.length=N):
  (decide (fr.length=(N+7)/8)&&(List.range (fr.length*8)).all (frB fr kd N))=true↔fr=usedL (kR kd):=by
 have key:∀i,(decide (i<2)||(decide (i<N)&&!(kd.getD i 0==0)))=(decide (i<2)||(kR kd).getD i false):=fun i=>by
  by_cases hi:i<N
  ·rw [kR_at (by omega),jE hi,xP]
  ·rw [jH hi]
   have:(kR kd).getD i false=false:=by
    rw [jA,qD (by rw [JO];omega)];rfl
   rw [this];rfl
 constructor
 ·intro h;rw [jO,jR] at h;rw [<-KN hf h.1];unfold usedL;rw [JO,hk];refine zG fun i hi=>?_
  have:=List.all_eq_true.1 h.2 i (by rw [List.mem_range,h.1];exact hi);unfold frB at this;rw [key,yF] at this;exact this
 ·intro h;have hl:fr.length=(N+7)/8:=by rw [h];unfold usedL;rw [yY,JO,hk]
  rw [jO,jR];refine ⟨hl,List.all_eq_true.2 fun i hi=>?_⟩;rw [List.mem_range,hl] at hi;unfold frB;rw [key,yF,h];unfold usedL;rw [YA (by rw [JO,hk];exact hi)]
theorem suOk_fit {L:List Int} (hL:Bys L) {S:Sp} (hS:okS S=true) {T:Tc} (h:SuOk L S T):Fit L (wk0 (pgN L)) T:=by
 refine ⟨⟨h.nd,fun n _=>wk0_at _ _,fun x _=>.inl (wk0_at _ _),h.ap⟩,h.pc,?_⟩;have h1:=txs_len T.pc (suT_in hL h.t).2 h.pc;have h2:=suT_sm h.t;have h3:=h.b;rw [h2] at h3;simp only [sm3] at h3;unfold okS fitS at hS;simp only [jO,jR] at hS;have:(wk0 (pgN L)).tx++txs L T.pc=txs L T.pc:=rfl;rw [this];omega
theorem fit_suOk {L:List Int} {S:Sp} {T:Tc} (ht:suT L S=some T) (h:Fit L (wk0 (pgN L)) T) (hb:T.s.b=S.b) (hl:T.s.l=S.l):SuOk L S T:=
 ⟨ht,h.vd.nd,h.vd.ap,h.pc,hb,hl⟩
theorem su_wa {L:List Int} (hL:Bys L) (h4:pgN L<=4096) {S:Sp} (hS:okS S=true):(waE L S=0/\Su L S (waR L S))\/(waE L S=8/\∀r,¬Su L S r):=by
 by_cases hp:S.p=(pgN L:Int)
 case neg=>
  right;exact ⟨by unfold waE;rw [if_pos hS,if_neg hp],fun r h=>hp h.1⟩
 have hS':=hS;unfold okS fitS ldB at hS';simp only [jO,jR] at hS';have hs2:S.s=0\/2<=S.s:=by omega
 have hf2:S.f=0\/2<=S.f:=by omega
 have hE:waE L S=if waB L S=true then 0 else 8:=by unfold waE;rw [if_pos hS,if_pos hp]
 have hN:8<=pgN L:=by omega
 have hbadE:(wkD L S).1.bad=true->waE L S=8:=fun h=>by
  rw [hE];unfold waB;rw [h];rfl
 have hlen0:(wk0 (pgN L)).kd.length=pgN L:=by simp [wk0]
 have hA:Goes L (wk0 (pgN L)) (suT L S) (wkA L S):=by
  unfold suT wkA;split
  ·exact .inl ⟨tc0,rfl,GH (by simp [wk0]) _,by rw [show tc0=⟨[],[],s30⟩ from rfl,ap_nil rfl]⟩
  ·exact wtr_goes hL _ _ _ _ rfl hlen0 (by simp [wk0])
 have hAbad:(wkB L S).bad=true->(wkD L S).1.bad=true:=fun h=>by
  have h1:wkC L S=(wkB L S,[]):=by unfold wkC;exact KH h
  unfold wkD;rw [h1,KH h];exact h
 rcases hA with ⟨T,ht,hF,hx⟩|⟨hb,hno⟩
 ·by_cases hsum:T.s.b=S.b/\T.s.l=S.l
  ·have hok:=fit_suOk ht hF hsum.1 hsum.2
   have hB:wkB L S=apW L (wk0 (pgN L)) T:=by
    unfold wkB;rw [hx];simp only;rw [hsum.1,hsum.2];simp [apW]
   have hBl:(wkB L S).kd.length=pgN L:=by rw [hB];unfold apW;rw [zK,hlen0]
   have hBk:kR (wkB L S).kd=mkR (rN L) (T.tp++pgs T.pc):=by rw [hB];unfold apW;rw [kR_mkd,wk0_kR]
   have hBb:(wkB L S).bad=false:=by rw [hB];rfl
   rcases ch_goes hL (kd:=115) (by decide) (by decide) (pgN L+1) S.s (wkB L S) [] hBb hs2 (by omega) (by omega) (by simp) with ⟨W2,R2,st,i1,i2,i3,i4,i5,i6,i7,-⟩|⟨i1,i2⟩
   ·have hC:wkC L S=(W2,st):=i2;rcases ch_goes hL (kd:=102) (by decide) (by decide) (pgN L+1) S.f W2 [] i3 hf2 (by omega) (by omega) (by simp) with ⟨W3,R3,fr,j1,j2,j3,j4,j5,j6,j7,-⟩|⟨j1,j2⟩
    ·have hD:wkD L S=(W3,fr):=by unfold wkD;rw [hC];exact j2
     rw [hBk] at i1;rw [i4] at j1;have hfb:=chB_bys hL _ _ _ _ _ (fun z hz=>(by cases hz)) j1;have hW3:W3.kd.length=pgN L:=by rw [j5,i5,hBl]
     have hfi:=fr_iff hfb.1 hW3
     have hwb:waB L S=true↔fr=usedL R3:=by
      unfold waB;rw [hD];simp only;rw [j3,Bool.not_false,xP,hfi,j4]
     by_cases hu:fr=usedL R3
     ·left;have hE0:waE L S=0:=by rw [hE,if_pos (hwb.2 hu)]
      refine ⟨hE0,hp,T,R2,st,R3,fr,hok,i1,j1,hu,?_⟩;unfold waR;rw [if_pos hE0,hD,hC];simp only;rw [j6,i6,j7,i7,hB,rs_eq _ _ (by omega),j4];rfl
     ·right;refine ⟨by rw [hE,if_neg (fun e=>hu (hwb.1 e))],fun r hr=>hu ?_⟩;obtain ⟨-,T',R2',st',R3',fr',k1,k2,k3,k4,-⟩:=hr;have:T'=T:=yH (k1.t.symm.trans ht);subst this;rw [i1] at k2;simp only [jQ,xQ] at k2;obtain ⟨rfl,rfl⟩:=k2;rw [j1] at k3;simp only [jQ,xQ] at k3;obtain ⟨rfl,rfl⟩:=k3;exact k4
    ·right;have hD:(wkD L S).1.bad=true:=by unfold wkD;rw [hC];exact j2
     refine ⟨hbadE hD,fun r hr=>?_⟩;obtain ⟨-,T',R2',st',R3',fr',k1,k2,k3,k4,-⟩:=hr;have:T'=T:=yH (k1.t.symm.trans ht);subst this;rw [hBk] at i1;rw [i1] at k2;simp only [jQ,xQ] at k2;obtain ⟨rfl,rfl⟩:=k2;rw [i4] at j1;rw [j1] at k3;cases k3
   ·right;have hC:(wkC L S).1.bad=true:=i2;have hD:(wkD L S).1.bad=true:=by unfold wkD;rw [KH hC];exact hC
    refine ⟨hbadE hD,fun r hr=>?_⟩;obtain ⟨-,T',R2',st',R3',fr',k1,k2,k3,k4,-⟩:=hr;have:T'=T:=yH (k1.t.symm.trans ht);subst this;rw [hBk] at i1;rw [i1] at k2;cases k2
  ·right
   have hB:(wkB L S).bad=true:=by
    unfold wkB;rw [hx];simp only
    have:(T.s.b==S.b&&T.s.l==S.l)=false:=by
     rw [Bool.and_eq_false_iff];by_cases h1:T.s.b=S.b
     ·right;have:¬T.s.l=S.l:=fun h2=>hsum ⟨h1,h2⟩
      simpa using this
     ·left
      simpa using h1
    rw [this];simp
   refine ⟨hbadE (hAbad hB),fun r hr=>hsum ?_⟩;obtain ⟨-,T',R2',st',R3',fr',k1,-⟩:=hr;have:T'=T:=yH (k1.t.symm.trans ht);subst this;exact ⟨k1.b,k1.l⟩
 ·right;have hB:(wkB L S).bad=true:=by unfold wkB;simp only;rw [hb];rfl
  refine ⟨hbadE (hAbad hB),fun r hr=>?_⟩;obtain ⟨-,T',R2',st',R3',fr',k1,-⟩:=hr;exact hno T' k1.t (suOk_fit hL hS k1)
theorem tcK_loc {Q:Nat->Prop} {f g:Int->Option Tc} (hfg:∀n T,f n=some T->(∀k∈T.tp,Q k)->g n=some T):
  ∀(l:List C4) (T:Tc),tcK f l=some T->(∀k∈T.tp,Q k)->tcK g l=some T:=by
 intro l
 induction l with
 |nil=>intro T h _;exact h
 |cons a l ih=>
  intro T h hq;unfold tcK at h ⊢;cases hx:f a.a with
  |none=>rw [hx] at h;cases h
  |some x=>
   rw [hx] at h;simp only at h;split at h
   ·next hk=>
    cases hy:tcK f l with
    |none=>rw [hy] at h;cases h
    |some y=>
     rw [hy] at h;cases h;have q1:∀k∈x.tp,Q k:=fun k hk=>hq k (qM _ hk)
     have q2:∀k∈y.tp,Q k:=fun k hk=>hq k (qL _ hk)
     rw [hfg _ _ hx q1];simp only;rw [if_pos hk,ih y hy q2]
   ·cases h
theorem tcT_loc {L M:List Int} (hn:pgN M=pgN L):∀(lv:Nat) (root:Bool) (n:Int) (T:Tc),tcT L lv root n=some T->(∀k∈T.tp,pageOf M k=pageOf L k)->tcT M lv root n=some T:=by
 intro lv
 induction lv with
 |zero=>
  intro root n T h hq;unfold tcT at h ⊢;split at h
  ·next hc=>
   cases h;have e:=hq n.toNat (by simp);rw [hn,e,if_pos hc]
  ·cases h
 |succ lv ih=>
  intro root n T h hq;unfold tcT at h ⊢;split at h
  ·next hc=>
   cases hy:tcK (tcT L lv false) (reL true (pageOf L n.toNat)) with
   |none=>rw [hy] at h;cases h
   |some y=>
    rw [hy] at h;cases h;have e:=hq n.toNat (by simp);rw [hn,e,if_pos hc,tcK_loc (Q:=fun k=>pageOf M k=pageOf L k) (fun n T=>ih false n T) _ y hy (fun k hk=>hq k (jM _ hk))]
  ·cases h
theorem KJ {L:List Int}:∀(f:Nat) (n:Int) (R:List Bool) (out:List Int) (x:List Bool × List Int),chB L f n R out=some x->x.1.length=R.length/\∀k,R.getD k false=true->x.1.getD k false=true:=by
 intro f
 induction f with
 |zero=>intro n R out x h;cases h
 |succ f ih=>
  intro n R out x h;unfold chB at h;split at h
  ·cases h;exact ⟨rfl,fun _ h=>h⟩
  ·split at h
   ·obtain ⟨h1,h2⟩:=ih _ _ _ _ h;refine ⟨by rw [h1,jY],fun k hk=>h2 k ?_⟩;by_cases hl:k<R.length
    ·rw [YS hl];split
     ·rfl
     ·exact hk
    ·rw [jA,qD (by omega)] at hk;cases hk
   ·cases h
theorem chB_loc {L M:List Int}:∀(f:Nat) (n:Int) (R:List Bool) (out:List Int) (x:List Bool × List Int),chB L f n R out=some x->(∀k,x.1.getD k false=true->pageOf M k=pageOf L k)->chB M f n R out=some x:=by
 intro f
 induction f with
 |zero=>intro n R out x h;cases h
 |succ f ih=>
  intro n R out x h hq;unfold chB at h ⊢;split at h
  ·next h0=>rw [if_pos h0];exact h
  ·next h0=>
   split at h
   ·next hc=>
    have hr:=(QZ (R:=R) (n:=n) (by rw [jO] at hc;exact hc.1));have hs:x.1.getD n.toNat false=true:=(KJ _ _ _ _ _ h).2 _ (by rw [YS (by omega),if_pos rfl]);rw [if_neg h0,hq _ hs,if_pos hc];exact ih _ _ _ _ h hq
   ·cases h
theorem rsB_mem {R:List Bool} (k:Nat):∀n,(k:Int)∈rsB R n↔k<n/\R.getD k false=true:=by
 intro n
 induction n with
 |zero=>simp [rsB]
 |succ n ih=>
  unfold rsB;by_cases h:R.getD n false=true
  ·rw [if_pos h,qV,ih];constructor
   ·rintro (h1|h1)
    ·exact ⟨by omega,h1.2⟩
    ·have:k=n:=by
      have h2:(k:Int)=(n:Int):=by simpa using h1
      omega
     subst this;exact ⟨by omega,h⟩
   ·rintro ⟨h1,h2⟩;by_cases e:k=n
    ·subst e;exact .inr (by simp)
    ·exact .inl ⟨by omega,h2⟩
  ·rw [if_neg h,ih];constructor
   ·rintro ⟨h1,h2⟩;exact ⟨by omega,h2⟩
   ·rintro ⟨h1,h2⟩;refine ⟨?_,h2⟩;by_cases e:k=n
    ·subst e;exact absurd h2 h
    ·omega
theorem rsB_all {R:List Bool}:∀n,∀z∈rsB R n,∃k:Nat,z=(k:Int)/\k<n:=by
 intro n
 induction n with
 |zero=>intro z hz;simp [rsB] at hz
 |succ n ih=>
  intro z hz;unfold rsB at hz;split at hz
  ·rcases List.mem_append.1 hz with h|h
   ·obtain ⟨k,e,h⟩:=ih z h;exact ⟨k,e,by omega⟩
   ·exact ⟨n,by simpa using h,by omega⟩
  ·obtain ⟨k,e,h⟩:=ih z hz;exact ⟨k,e,by omega⟩
theorem mkR_yes {R:List Bool} {l:List Nat} {k:Nat} (hk:k<R.length) (h:k∈l):(mkR R l).getD k false=true:=by
 rw [QA hk];simp [h]
theorem su_loc {L M:List Int} (hL:Bys L) {S:Sp} {r:Rp} (h:Su L S r) (hl:M.length=L.length) (hq:∀k:Nat,(k:Int)∈r.pg->pageOf M k=pageOf L k):Su M S r:=by
 obtain ⟨hp,T,R2,st,R3,fr,hT,h1,h2,h3,rfl⟩:=h;have hn:pgN M=pgN L:=by unfold pgN;rw [hl]
 have hrN:rN M=rN L:=by unfold rN;rw [hn]
 obtain ⟨l2,m2⟩:=KJ _ _ _ _ _ h1;obtain ⟨l3,m3⟩:=KJ _ _ _ _ _ h2;rw [JB] at l2;have hr0:(rN L).length=pgN L:=by unfold rN;rw [jK]
 have q3:∀k,R3.getD k false=true->pageOf M k=pageOf L k:=fun k hk=>by
  refine hq k ((rsB_mem k _).2 ⟨?_,hk⟩);by_cases hlt:k<R3.length
  ·rw [l3,l2,hr0] at hlt;exact hlt
  ·rw [jA,qD (by omega)] at hk;cases hk
 have q2:∀k,R2.getD k false=true->pageOf M k=pageOf L k:=fun k hk=>q3 k (m3 k hk)
 have hin:=suT_in hL hT.t;have q0:∀k∈T.tp++pgs T.pc,k<pgN L->pageOf M k=pageOf L k:=fun k hk hlt=>q2 k (m2 k (mkR_yes (by rw [hr0];exact hlt) hk))
 have qt:∀k∈T.tp,pageOf M k=pageOf L k:=fun k hk=>q0 k (qM _ hk) (hin.1 k hk).2
 have qp:∀p∈T.pc,pageOf M p.a.toNat=pageOf L p.a.toNat:=fun p hp=>q0 _ (qL _ (List.mem_map.2 ⟨p,hp,rfl⟩)) (by
  have:=hT.pc p hp;unfold pcK inR at this;simp only [jO,jR] at this;omega)
 have hpc:∀p∈T.pc,pcK M p=pcK L p:=fun p hp=>by unfold pcK;rw [hn,qp p hp]
 have htx:txs M T.pc=txs L T.pc:=by
  unfold txs;rw [List.flatMap_def,List.flatMap_def,xC (g:=pcT L) fun p hp=>by unfold pcT;rw [qp p hp]]
 refine ⟨by rw [hn];exact hp,T,R2,st,R3,fr,⟨?_,hT.nd,hT.ap,fun p hp=>by rw [hpc p hp];exact hT.pc p hp,hT.b,hT.l⟩,?_,?_,h3,?_⟩
 ·have:=hT.t;unfold suT at this ⊢;split
  ·next h0=>rw [if_pos h0] at this;exact this
  ·next h0=>
   rw [if_neg h0] at this;exact tcT_loc hn _ _ _ _ this qt
 ·rw [hn,hrN];exact chB_loc _ _ _ _ _ h1 q2
 ·rw [hn];exact chB_loc _ _ _ _ _ h2 q3
 ·rw [hn,htx]
def mixP (a b:List Int) (c:Int):List Int:=(List.range 256).map fun i=>if bitAt c (i/64)=true then b.getD i 0 else a.getD i 0
theorem kJ (a b:List Int) (c:Int):(mixP a b c).length=256:=by simp [mixP]
theorem mixP_at (a b:List Int) (c:Int) {i:Nat} (hi:i<256):(mixP a b c).getD i 0=if bitAt c (i/64)=true then b.getD i 0 else a.getD i 0:=by
 unfold mixP;rw [jA,qH,List.getElem?_range hi];rfl
theorem pg_len {L:List Int} {k:Nat} (h:k*256+256<=L.length):(pageOf L k).length=256:=by simp [pageOf];omega
theorem pg_at (L:List Int) (k i:Nat) (hi:i<256):(pageOf L k).getD i 0=L.getD (k*256+i) 0:=by
 simp [pageOf,hi]
theorem pg_onto {L b:List Int} {pg k:Nat} {c:Int} (hk:k*256+256<=L.length):pageOf (onto L pg b c) k=if k=pg then mixP (pageOf L k) b c else pageOf L k:=by
 have hl:(pageOf (onto L pg b c) k).length=256:=pg_len (by rw [XJ];exact hk);refine yZ ?_ fun i hi=>?_
 ·rw [hl];split
  ·rw [kJ]
  ·exact (pg_len hk).symm
 rw [hl] at hi;rw [pg_at _ _ _ hi];unfold onto;rw [QJ _ _ _ _ _ _ (by omega),show (k*256+i)/256=k by omega,show (k*256+i)%256=i by omega];by_cases h:k=pg
 ·rw [if_pos h,mixP_at _ _ _ hi,pg_at _ _ _ hi];by_cases hb:bitAt c (i/64)=true
  ·rw [if_pos ⟨h,by omega,hb⟩,if_pos hb]
  ·rw [if_neg (fun x=>hb x.2.2),if_neg hb]
 ·rw [if_neg (fun x=>h x.1),if_neg h,pg_at _ _ _ hi]
theorem pg_fall {L:List Int} {l:List (Nat × List Int)} {k:Nat} {Q:List Int->Prop} (ch:List Int) (hk:k*256+256<=L.length) (h0:Q (pageOf L k))
  (hm:∀a b c,Q a->Q b->Q (mixP a b c)) (hl:∀x∈l,x.1=k->Q x.2):∀m,m<=l.length->Q (pageOf (fallK L l ch m) k):=by
 intro m
 induction m with
 |zero=>intro _;exact h0
 |succ m ih=>
  intro hm';unfold fallK;rw [pg_onto (by rw [zX];exact hk)]
  have e:l.getD m (0,[])∈l:=by
   rw [jA,jC (by omega)];exact qB _
  split
  ·next h=>exact hm _ _ _ (ih (by omega)) (hl _ e h.symm)
  ·exact ih (by omega)
theorem kA {L:List Int} {l:List (Nat × List Int)} {k:Nat} (ch:List Int) (hk:k*256+256<=L.length) (hl:∀x∈l,x.1≠k):∀m,m<=l.length->pageOf (fallK L l ch m) k=pageOf L k:=by
 intro m
 induction m with
 |zero=>intro _;rfl
 |succ m ih=>
  intro hm';unfold fallK;rw [pg_onto (by rw [zX];exact hk)]
  have e:l.getD m (0,[])∈l:=by
   rw [jA,jC (by omega)];exact qB _
  rw [if_neg (fun h=>hl _ e h.symm)];exact ih (by omega)
theorem fall_app {L:List Int} {l m:List (Nat × List Int)} {ch:List Int}:∀k,k<=l.length->fallK L (l++m) ch k=fallK L l ch k:=by
 intro k
 induction k with
 |zero=>intro _;rfl
 |succ k ih=>
  intro hk;unfold fallK;rw [ih (by omega)]
  have e:(l++m).getD k (0,[])=l.getD k (0,[]):=by
   rw [jA,jA,qP (by omega)]
  rw [e]
def Sbz (z:List Int):Prop:=z.length=256/\∀i,64<=i->i<256->z.getD i 0=0
theorem mix_sbz {a b:List Int} (ha:Sbz a) (hb:Sbz b) (c:Int):mixP a b c=if bitAt c 0=true then b else a:=by
 refine yZ (by rw [kJ];split;exact hb.1.symm;exact ha.1.symm) fun i hi=>?_
 rw [kJ] at hi;rw [mixP_at _ _ _ hi];by_cases h64:64<=i
 ·rw [ha.2 i h64 hi,hb.2 i h64 hi,ite_self];split
  ·rw [hb.2 i h64 hi]
  ·rw [ha.2 i h64 hi]
 ·rw [show i/64=0 by omega];split<;>rfl
theorem seal_sbz (S:Sp):Sbz (sealL (pgS S)):=by
 have hp:=QH S 8 (by omega);refine ⟨ZX (by show (preS S 8).length<=248;rw [hp];decide),fun i h1 h2=>?_⟩
 have e:sealL (pgS S)=(nums 4 (crc (tailP (pgS S))).toNat++(nums 1 (pgS S).kind.toNat++nums 1 (pgS S).level.toNat++nums 2 (pgS S).count.toNat++preS S 8))++List.replicate (248-(preS S 8).length) 0:=by
  unfold sealL tailP;rw [show (pgS S).body=preS S 8 from rfl,<-jX]
 have hl:(nums 4 (crc (tailP (pgS S))).toNat++(nums 1 (pgS S).kind.toNat++nums 1 (pgS S).level.toNat++nums 2 (pgS S).count.toNat++preS S 8)).length=42:=by
  simp only [jN,yS,hp];rfl
 rw [e,QM,if_neg (by rw [hl];omega),hl,jA,xA];split<;>rfl
theorem en_seal {S:Sp} (h:okS S=true):enZ S=sealL (pgS S):=by unfold enZ;rw [if_pos h]
theorem vZ {S:Sp} (h:okS S=true):Sbz (enZ S):=by rw [en_seal h];exact seal_sbz S
theorem en_dec {S:Sp} (h:okS S=true):deE (enZ S)=0/\deS (enZ S)=S:=by
 rw [en_seal h];exact ⟨(dec_enc h).2.2.1,(dec_enc h).2.2.2⟩
theorem nou_sbz:Sbz (List.replicate 256 0):=⟨jK,fun i h1 h2=>by rw [jA,xA];split<;>rfl⟩
def Othr (S:Sp) (T:List (Sp × Rp)) (z:List Int):Prop:=Sbz z/\(deE z≠0\/(∃S0,okS S0=true/\S0.g<S.g/\z=enZ S0)\/∃y∈T,z=enZ y.1)
structure Jv (D:Dv) (S:Sp) (pl:Nat) (r:Rp) (T:List (Sp × Rp)):Prop where
 ok:D.ok
 now:D.now=fallK D.sure D.since [] D.since.length
 p2:pl<2
 sp:okS S=true
 su:Su D.sure S r
 at_:pageOf D.sure pl=enZ S
 nop:∀x∈D.since,x.1≠pl
 nor:∀x∈D.since,¬(x.1:Int)∈r.pg
 oth:Othr S T (pageOf D.sure (1-pl))
 ots:∀x∈D.since,x.1=1-pl->∃y∈T,x.2=enZ y.1
 trd:∀y∈T,okS y.1=true/\S.g<y.1.g/\Su D.sure y.1 y.2/\∀x∈D.since,¬(x.1:Int)∈y.2.pg
theorem su_in {L:List Int} {S:Sp} {r:Rp} (h:Su L S r):∀z∈r.pg,∃k:Nat,z=(k:Int)/\k<pgN L:=by
 obtain ⟨_,T,R2,st,R3,fr,_,_,_,_,rfl⟩:=h;exact rsB_all _
theorem ZS {D:Dv} (ok:D.ok) {S:Sp} {r:Rp} (h:Su D.sure S r) (hn:∀x∈D.since,¬(x.1:Int)∈r.pg) (ch:List Int):Su (fallK D.sure D.since ch D.since.length) S r:=by
 refine su_loc ok.bsure h (zX ..) fun k hk=>?_
 obtain ⟨j,e,hj⟩:=su_in h k hk;have hkj:k=j:=by omega
 subst hkj;have hs:=ok.sure;unfold pgN at hj;exact kA ch (by omega) (fun x hx e=>hn x hx (by rw [e];exact hk)) _ (jB _)
theorem othr_mix {S:Sp} {T:List (Sp × Rp)} {a b:List Int} (ha:Othr S T a) (hb:Othr S T b) (c:Int):Othr S T (mixP a b c):=by
 rw [mix_sbz ha.1 hb.1];split
 ·exact hb
 ·exact ha
theorem Jv.pages {D:Dv} {S:Sp} {pl:Nat} {r:Rp} {T:List (Sp × Rp)} (h:Jv D S pl r T) (ch:List Int):
  pageOf (fallK D.sure D.since ch D.since.length) pl=enZ S/\Othr S T (pageOf (fallK D.sure D.since ch D.since.length) (1-pl)):=by
 have hs:=h.ok.sure;have h8:=h.ok.n8;have hp:=h.p2;refine ⟨?_,?_⟩
 ·rw [kA ch (by omega) h.nop _ (jB _)];exact h.at_
 ·refine pg_fall (Q:=Othr S T) ch (by omega) h.oth (fun a b c=>fun ha hb=>othr_mix ha hb c) (fun x hx e=>?_) _ (jB _);obtain ⟨y,hy,e⟩:=h.ots x hx e;rw [e];exact ⟨vZ (h.trd y hy).1,.inr (.inr ⟨y,hy,rfl⟩)⟩
theorem oa_at {L:List Int} (hL:Bys L) (hN:pgN L<=4096) {S:Sp} {r:Rp} {pl:Nat} (hp:pl<2) (ho:okS S=true) (hs:Su L S r) (ha:pageOf L pl=enZ S) (hb:deE (pageOf L (1-pl))≠0\/(deE (pageOf L (1-pl))=0/\(deS (pageOf L (1-pl))).g<S.g)):
  oaE L=0/\oaR L={r with pl:=(pl:Int)}:=by
 obtain ⟨d1,d2⟩:=en_dec ho
 have hwa:waE L S=0/\waR L S=r:=by
  rcases su_wa hL hN ho with h|h
  ·exact ⟨h.1,by
    have h2:=h.2;obtain ⟨_,T,R2,st,R3,fr,h1,h2,h3,_,e⟩:=h2;obtain ⟨_,T',R2',st',R3',fr',h1',h2',h3',_,rfl⟩:=hs;rw [e];have e1:T=T':=yH (h1.t.symm.trans h1'.t);subst e1;have e2:=yH (h2.symm.trans h2');rw [xQ] at e2;obtain ⟨rfl,rfl⟩:=e2;have e3:=yH (h3.symm.trans h3');rw [xQ] at e3;obtain ⟨rfl,rfl⟩:=e3;rfl⟩
  ·exact absurd hs (h.2 _)
 have hc:chE (pageOf L 0) (pageOf L 1)=0/\chS (pageOf L 0) (pageOf L 1)=S/\chP (pageOf L 0) (pageOf L 1)=(pl:Int):=by
  rcases (show pl=0\/pl=1 by omega) with e|e
  ·subst e;rw [ha];unfold chE chS chP
   have hcnd:deE (enZ S)=0/\(deE (pageOf L 1)≠0\/(deS (pageOf L 1)).g<=(deS (enZ S)).g):=by
    refine ⟨d1,?_⟩;rw [d2];rcases hb with hb|hb
    ·exact .inl hb
    ·exact .inr (Int.le_of_lt hb.2)
   rw [if_pos hcnd,if_pos hcnd,d1,d2,if_neg (by simp)];exact ⟨rfl,rfl,rfl⟩
  ·subst e;rw [ha];unfold chE chS chP
   have hcnd:¬(deE (pageOf L 0)=0/\(deE (enZ S)≠0\/(deS (enZ S)).g<=(deS (pageOf L 0)).g)):=by
    rw [d1,d2];rintro ⟨x,y⟩;rcases hb with hb|hb
    ·exact hb x
    ·rcases y with y|y
     ·exact y rfl
     ·have hb2:(deS (pageOf L 0)).g<S.g:=hb.2;omega
   rw [if_neg hcnd,if_neg hcnd,d1,d2,if_neg (by simp),if_pos rfl];exact ⟨rfl,rfl,rfl⟩
 have ho:oaE L=0:=by
  unfold oaE opX;rw [if_pos hc.1,hc.2.1,if_pos hwa.1]
 refine ⟨ho,?_⟩;unfold oaR;rw [if_pos ho,hc.2.1,hc.2.2,hwa.2]
theorem Jv.crash {D:Dv} {S:Sp} {pl:Nat} {r:Rp} {T:List (Sp × Rp)} (h:Jv D S pl r T) (ch:List Int):
  oaE (fallK D.sure D.since ch D.since.length)=0/\(oaR (fallK D.sure D.since ch D.since.length)={r with pl:=(pl:Int)}\/∃y∈T,oaR (fallK D.sure D.since ch D.since.length)={y.2 with pl:=((1-pl:Nat):Int)}):=by
 obtain ⟨pa,po⟩:=h.pages ch;have hb:Bys (fallK D.sure D.since ch D.since.length):=vY ch h.ok.bsure (fun x hx=>(h.ok.since x hx).2.2) _
 have hN:pgN (fallK D.sure D.since ch D.since.length)<=4096:=by
  unfold pgN;rw [zX,h.ok.sure];have:=h.ok.n4;omega
 have hs:=ZS h.ok h.su h.nor ch;rcases po.2 with hd|⟨S0,h1,h2,h3⟩|⟨y,hy,e⟩
 ·obtain ⟨a,b⟩:=oa_at hb hN h.p2 h.sp hs pa (.inl hd);exact ⟨a,.inl b⟩
 ·obtain ⟨d1,d2⟩:=en_dec h1;obtain ⟨a,b⟩:=oa_at hb hN h.p2 h.sp hs pa (.inr (by rw [h3];exact ⟨d1,by rw [d2];exact h2⟩));exact ⟨a,.inl b⟩
 ·obtain ⟨t1,t2,t3,t4⟩:=h.trd y hy;obtain ⟨d1,d2⟩:=en_dec h.sp;have hp:=h.p2
  obtain ⟨a,b⟩:=oa_at (pl:=1-pl) hb hN (by omega) t1 (ZS h.ok t3 t4 ch) e (.inr (by
   rw [show 1-(1-pl)=pl by omega,pa];exact ⟨d1,by rw [d2];exact t2⟩))
  exact ⟨a,.inr ⟨y,hy,b⟩⟩
theorem Jv.nowOpen {D:Dv} {S:Sp} {pl:Nat} {r:Rp} {T:List (Sp × Rp)} (h:Jv D S pl r T):
  oaE D.now=0/\(oaR D.now={r with pl:=(pl:Int)}\/∃y∈T,oaR D.now={y.2 with pl:=((1-pl:Nat):Int)}):=by
 rw [h.now];exact h.crash []
theorem Jv.same {D E:Dv} {S:Sp} {pl:Nat} {r:Rp} {T:List (Sp × Rp)} (h:Jv D S pl r T) (ok:E.ok) (h1:E.now=D.now) (h2:E.sure=D.sure) (h3:E.since=D.since):Jv E S pl r T:=
 ⟨ok,by rw [h1,h2,h3];exact h.now,h.p2,h.sp,by rw [h2];exact h.su,by rw [h2];exact h.at_,by rw [h3];exact h.nop,by rw [h3];exact h.nor,by rw [h2];exact h.oth,by rw [h3];exact h.ots,by rw [h2,h3];exact h.trd⟩
theorem Jv.opD {D:Dv} {S:Sp} {pl:Nat} {r:Rp} {T:List (Sp × Rp)} (h:Jv D S pl r T):Jv (Oct.opD D) S pl r T:=h.same (vW h.ok) rfl rfl rfl
theorem Jv.dieD {D:Dv} {S:Sp} {pl:Nat} {r:Rp} {T:List (Sp × Rp)} (h:Jv D S pl r T):Jv (Oct.dieD D) S pl r T:=h.same (UX h.ok) rfl rfl rfl
theorem Jv.outD {D:Dv} {S:Sp} {pl:Nat} {r:Rp} {T:List (Sp × Rp)} (h:Jv D S pl r T) {l:List Int} (hl:Bys l):Jv (Oct.outD D l) S pl r T:=h.same (outD_ok h.ok hl) rfl rfl rfl
theorem Jv.readD {D:Dv} {S:Sp} {pl:Nat} {r:Rp} {T:List (Sp × Rp)} (h:Jv D S pl r T):Jv (Oct.readD D) S pl r T:=by
 unfold Oct.readD;split
 ·exact h
 ·split
  ·exact h.dieD
  ·exact h.opD
theorem now_wr {D:Dv} (h:D.now=fallK D.sure D.since [] D.since.length) (pg:Nat) (b:List Int):(wrD D pg b).now=fallK (wrD D pg b).sure (wrD D pg b).since [] (wrD D pg b).since.length:=by
 show onto D.now pg b 15=fallK D.sure (D.since++[(pg,b)]) [] (D.since++[(pg,b)]).length;rw [jN,List.length_singleton];unfold fallK;rw [fall_app _ (jB _),<-h]
 have e:(D.since++[(pg,b)]).getD D.since.length (0,[])=(pg,b):=by
  rw [jA,qY (jB _),Nat.sub_self];rfl
 rw [e];rfl
def Apart (r:Rp) (T:List (Sp × Rp)) (k:Nat):Prop:=2<=k/\¬(k:Int)∈r.pg/\∀y∈T,¬(k:Int)∈y.2.pg
theorem Jv.wrD {D:Dv} {S:Sp} {pl:Nat} {r:Rp} {T:List (Sp × Rp)} (h:Jv D S pl r T) {k:Nat} {b:List Int} (hk:k<D.n) (ha:Apart r T k) (hb:b.length=256) (hy:Bys b):Jv (Oct.wrD D k b) S pl r T:=by
 have hp:=h.p2
 have hm:∀x∈(Oct.wrD D k b).since,x∈D.since\/x=(k,b):=fun x hx=>by
  rcases List.mem_append.1 hx with h|h
  ·exact .inl h
  ·exact .inr (by simpa using h)
 refine ⟨VC h.ok hk hb hy,now_wr h.now k b,hp,h.sp,h.su,h.at_,fun x hx=>?_,fun x hx=>?_,h.oth,fun x hx e=>?_,fun y hy=>?_⟩
 ·rcases hm x hx with hx|rfl
  ·exact h.nop x hx
  ·have:=ha.1;show k≠pl;omega
 ·rcases hm x hx with hx|rfl
  ·exact h.nor x hx
  ·exact ha.2.1
 ·rcases hm x hx with hx|rfl
  ·exact h.ots x hx e
  ·have:=ha.1;have e:k=1-pl:=e;omega
 ·obtain ⟨t1,t2,t3,t4⟩:=h.trd y hy;refine ⟨t1,t2,t3,fun x hx=>?_⟩;rcases hm x hx with hx|rfl
  ·exact t4 x hx
  ·exact ha.2.2 y hy
theorem Jv.writeD {D:Dv} {S:Sp} {pl:Nat} {r:Rp} {T:List (Sp × Rp)} (h:Jv D S pl r T) {k:Nat} {b:List Int} (hk:k<D.n) (ha:Apart r T k) (hb:b.length=256) (hy:Bys b):Jv (Oct.writeD D k b) S pl r T:=by
 unfold Oct.writeD;split
 ·exact h
 ·split
  ·exact h.dieD.wrD hk ha hb hy
  ·split
   ·exact h.opD
   ·exact h.opD.wrD hk ha hb hy
theorem Jv.wrS {D:Dv} {S:Sp} {pl:Nat} {r:Rp} {T:List (Sp × Rp)} (h:Jv D S pl r T) {S1:Sp} {r1:Rp} (ho:okS S1=true) (hg:S.g<S1.g) (hs:Su D.sure S1 r1) (hn:∀x∈D.since,¬(x.1:Int)∈r1.pg) (h2:∀z∈r1.pg,2<=z)
  (h2r:∀z∈r.pg,2<=z) (h2t:∀y∈T,∀z∈y.2.pg,2<=z):Jv (Oct.wrD D (1-pl) (enZ S1)) S pl r ((S1,r1)::T):=by
 have hp:=h.p2;have h8:=h.ok.n8
 have hm:∀x∈(Oct.wrD D (1-pl) (enZ S1)).since,x∈D.since\/x=(1-pl,enZ S1):=fun x hx=>by
  rcases List.mem_append.1 hx with h|h
  ·exact .inl h
  ·exact .inr (by simpa using h)
 have hlow:∀{l:List Int},(∀z∈l,(2:Int)<=z)->¬((1-pl:Nat):Int)∈l:=fun hl hz=>by have:=hl _ hz;omega
 refine ⟨VC h.ok (by omega) (vZ ho).1 (ZB S1),now_wr h.now _ _,hp,h.sp,h.su,h.at_,fun x hx=>?_,fun x hx=>?_,?_,fun x hx e=>?_,fun y hy=>?_⟩
 ·rcases hm x hx with hx|rfl
  ·exact h.nop x hx
  ·show 1-pl≠pl;omega
 ·rcases hm x hx with hx|rfl
  ·exact h.nor x hx
  ·exact hlow h2r
 ·refine ⟨h.oth.1,?_⟩;rcases h.oth.2 with a|a|⟨y,hy,e⟩
  ·exact .inl a
  ·exact .inr (.inl a)
  ·exact .inr (.inr ⟨y,jM _ hy,e⟩)
 ·rcases hm x hx with hx|rfl
  ·obtain ⟨y,hy,e⟩:=h.ots x hx e;exact ⟨y,jM _ hy,e⟩
  ·exact ⟨(S1,r1),by simp,rfl⟩
 ·rcases List.mem_cons.1 hy with rfl|hy
  ·refine ⟨ho,hg,hs,fun x hx=>?_⟩;rcases hm x hx with hx|rfl
   ·exact hn x hx
   ·exact hlow h2
  ·obtain ⟨t1,t2,t3,t4⟩:=h.trd y hy;refine ⟨t1,t2,t3,fun x hx=>?_⟩;rcases hm x hx with hx|rfl
   ·exact t4 x hx
   ·exact hlow (h2t y hy)
theorem Jv.setD {D:Dv} {S:Sp} {pl:Nat} {r:Rp} {T:List (Sp × Rp)} (h:Jv D S pl r T):Jv (Oct.setD D) S pl r T:=by
 obtain ⟨pa,po⟩:=h.pages [];refine ⟨gE h.ok,rfl,h.p2,h.sp,?_,?_,fun x hx=>by simp [Oct.setD] at hx,fun x hx=>by simp [Oct.setD] at hx,?_,fun x hx=>by simp [Oct.setD] at hx,fun y hy=>?_⟩
 ·show Su D.now S r;rw [h.now];exact ZS h.ok h.su h.nor []
 ·show pageOf D.now pl=enZ S;rw [h.now];exact pa
 ·show Othr S T (pageOf D.now (1-pl));rw [h.now];exact po
 ·obtain ⟨t1,t2,t3,t4⟩:=h.trd y hy;refine ⟨t1,t2,?_,fun x hx=>by simp [Oct.setD] at hx⟩;show Su D.now y.1 y.2;rw [h.now];exact ZS h.ok t3 t4 []
theorem Jv.syncD {D:Dv} {S:Sp} {pl:Nat} {r:Rp} {T:List (Sp × Rp)} (h:Jv D S pl r T):Jv (Oct.syncD D) S pl r T:=by
 unfold Oct.syncD;split
 ·exact h
 ·split
  ·exact h.dieD
  ·split
   ·exact h.opD
   ·exact h.opD.setD
theorem Jv.turn {D:Dv} {S:Sp} {pl:Nat} {r:Rp} {T:List (Sp × Rp)} (h:Jv D S pl r T) {y:Sp × Rp} (hy:y∈T) (hq:pageOf D.sure (1-pl)=enZ y.1) (hd:D.since=[]):Jv D y.1 (1-pl) y.2 []:=by
 obtain ⟨t1,t2,t3,t4⟩:=h.trd y hy;have hp:=h.p2;have hx:∀x∈D.since,False:=fun x hx=>by rw [hd] at hx;cases hx
 refine ⟨h.ok,h.now,by omega,t1,t3,hq,fun x h=>(hx x h).elim,t4,?_,fun x h=>(hx x h).elim,fun y hy=>by cases hy⟩;rw [show 1-(1-pl)=pl by omega,h.at_];exact ⟨vZ h.sp,.inr (.inl ⟨S,h.sp,t2,rfl⟩)⟩
end Go.Proofs.YtaijfhadecennaaGreat.Oct
