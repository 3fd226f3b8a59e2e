/- Part of a proof. -/
import Derived.Test.YtjllhcifmfhkmaaGreatBm
import Derived.Test.YtjllhcifmfhkmaaGreatKa
import Derived.Test.YtjllhcifmfhkmaaGreatR
import Derived.Deep.AppendLies
namespace Go.Proofs.YtjllhcifmfhkmaaGreat.Oct
open Go.RowKit
def rcB (R:List Bool) (n:Int):Bool:=decide (0≤n)&&(decide (n<(R.length:Int))&&!R.getD n.toNat false)
def cnt (R:List Bool):Nat:=R.count true
def mkR (R:List Bool) (l:List Nat):List Bool:=R.mapIdx fun i b=>b||decide (i∈l)
theorem rcB_out {R:List Bool} {n:Int} (h:rcB R n=true):0≤n∧n<(R.length:Int)∧R.getD n.toNat false=false:=by
 unfold rcB at h
 simpa using h
theorem mkR_len (R:List Bool) (l:List Nat):(mkR R l).length=R.length:=by simp [mkR]
theorem getB_ext {X Y:List Bool} (hl:X.length=Y.length) (h:∀i,i<X.length→X.getD i false=Y.getD i false):X=Y:=by
 refine List.ext_getElem hl fun i h1 h2=>?_
 have:=h i h1;rw [List.getD_eq_getElem?_getD,List.getD_eq_getElem?_getD,List.getElem?_eq_getElem h1,List.getElem?_eq_getElem h2] at this;exact this
theorem mkR_at {R:List Bool} {l:List Nat} {i:Nat} (hi:i<R.length):(mkR R l).getD i false=(R.getD i false||decide (i∈l)):=by
 unfold mkR;simp only [List.getD_eq_getElem?_getD,List.getElem?_mapIdx,List.getElem?_eq_getElem hi,Option.map_some,Option.getD_some]
theorem setB_at {R:List Bool} {n i:Nat} {b:Bool} (hi:i<R.length):(R.set n b).getD i false=if i=n then b else R.getD i false:=by
 rw [List.getD_eq_getElem?_getD,List.getElem?_set,List.getD_eq_getElem?_getD];by_cases h:n=i
 ·subst h;simp [hi]
 ·have h':¬i=n:=fun e=>h e.symm
  simp [h,h']
theorem mkR_nil (R:List Bool):mkR R []=R:=by
 refine getB_ext (mkR_len ..) fun i hi=>?_
 rw [mkR_len] at hi;rw [mkR_at hi];simp
theorem mkR_set {R:List Bool} {n:Nat} {l:List Nat}:mkR (R.set n true) l=mkR R (n::l):=by
 refine getB_ext (by simp [mkR_len]) fun i hi=>?_
 rw [mkR_len,List.length_set] at hi;rw [mkR_at (by rw [List.length_set];exact hi),mkR_at hi,setB_at hi];by_cases h:i=n
 ·subst h;simp
 ·simp [h]
theorem mkR_app {R:List Bool} {a b:List Nat}:mkR (mkR R a) b=mkR R (a++b):=by
 refine getB_ext (by simp [mkR_len]) fun i hi=>?_
 rw [mkR_len,mkR_len] at hi;rw [mkR_at (by rw [mkR_len];exact hi),mkR_at hi,mkR_at hi];simp [Bool.or_assoc]
theorem set_mkR (R:List Bool) (n:Nat):R.set n true=mkR R [n]:=by rw [←mkR_set,mkR_nil]
theorem cnt_set {R:List Bool} {n:Nat} (hn:n<R.length) (h:R.getD n false=false):cnt (R.set n true)=cnt R+1:=by
 unfold cnt
 have e:R[n]=false:=by
  rw [List.getD_eq_getElem?_getD,List.getElem?_eq_getElem hn] at h;exact h
 rw [List.count_set hn,e];simp
theorem cnt_le (R:List Bool):cnt R≤R.length:=List.count_le_length
theorem cnt_lt {R:List Bool} {n:Nat} (hn:n<R.length) (h:R.getD n false=false):cnt R<R.length:=by
 have:=cnt_set hn h;have:=cnt_le (R.set n true);rw [List.length_set] at this;omega
def chB (L:List Int):Nat→Int→List Bool→List Int→Option (List Bool × List Int)
 |0,_,_,_=>none
 |f+1,n,R,out=>if n=0 then some (R,out) else if (rcB R n&&decide (ptE (pageOf L n.toNat)=0))=true then chB L f (ptN (pageOf L n.toNat)) (R.set n.toNat true) (out++ptL (pageOf L n.toNat)) else none
theorem ptL_le {z:List Int}:(ptL z).length≤244:=by
 unfold ptL;split
 ·next e=>
  unfold ptE at e;split at e
  ·split at e
   ·next hb=>
    unfold ptB at hb;simp only [Bool.and_eq_true,decide_eq_true_eq] at hb;have:=hb.2.2.1;rw [List.length_take];omega
   ·cases e
  ·contradiction
 ·simp
theorem ptN_in {z:List Int} (hz:Bys z):(ptN z=0∨2≤ptN z):=by
 unfold ptN;split
 ·next e=>
  unfold ptE at e;split at e
  ·split at e
   ·next hb=>
    unfold ptB at hb;simp only [Bool.and_eq_true,decide_eq_true_eq] at hb;have h1:=hb.2.2.2.1.1;have h0:0≤nx (opP z):=by unfold nx;exact (getI_bd (opP_bys hz) 0 4).1
    omega
   ·cases e
  ·contradiction
 ·exact .inl rfl
def kR (kd:List Int):List Bool:=kd.map fun z=>!(z==0)
theorem kR_len (kd:List Int):(kR kd).length=kd.length:=by simp [kR]
theorem kR_at {kd:List Int} {i:Nat} (hi:i<kd.length):(kR kd).getD i false=!(kd.getD i 0==0):=by
 unfold kR;rw [List.getD_eq_getElem?_getD,List.getElem?_map,List.getElem?_eq_getElem hi,List.getD_eq_getElem?_getD,List.getElem?_eq_getElem hi];rfl
theorem kR_set {kd:List Int} {n:Nat} {y:Int} (hy:y≠0):kR (kd.set n y)=(kR kd).set n true:=by
 unfold kR;rw [List.map_set]
 congr 1
 simpa using hy
theorem kR_mkd (kd:List Int) (tp xs:List Nat):kR (mkd kd tp xs)=mkR (kR kd) (tp++xs):=by
 refine getB_ext (by rw [kR_len,mkd_len,mkR_len,kR_len]) fun i hi=>?_
 rw [kR_len,mkd_len] at hi;rw [kR_at (by rw [mkd_len];exact hi),mkd_at hi,mkR_at (by rw [kR_len];exact hi),kR_at hi];by_cases h1:i∈tp
 ·simp [h1]
 ·by_cases h2:i∈xs
  ·simp [h1,h2]
  ·simp [h1,h2]
theorem kdB_kR {W:Wk} {n kd:Int} (hk:(kd==120)=false) (h2:2≤n):kdB W n kd=rcB (kR W.kd) n:=by
 unfold kdB rcB;rw [kR_len,hk,decide_eq_true h2,decide_eq_true (show (0:Int)≤n by omega)];by_cases h:n<(W.kd.length:Int)
 ·rw [kR_at (by omega)];simp
 ·rw [decide_eq_false h];simp
theorem ch_goes {L:List Int} (hL:Bys L) {kd:Int} (hk:(kd==120)=false) (hk0:kd≠0):∀(f:Nat) (n:Int) (W:Wk) (out:List Int),W.bad=false→(n=0∨2≤n)→W.kd.length≤4096→W.kd.length<f+cnt (kR W.kd)→out.length≤244*cnt (kR W.kd)→
  (∃W' R' out',chB L f n (kR W.kd) out=some (R',out')∧chGo L kd f n W out=(W',out')∧W'.bad=false∧kR W'.kd=R'∧W'.kd.length=W.kd.length∧W'.pc=W.pc∧W'.tx=W.tx∧out'.length≤244*cnt R')∨(chB L f n (kR W.kd) out=none∧(chGo L kd f n W out).1.bad=true):=by
 intro f
 induction f with
 |zero=>
  intro n W out _ _ _ h;have:=cnt_le (kR W.kd);rw [kR_len] at this;omega
 |succ f ih=>
  intro n W out hb hn h4 hf ho;have e1:chB L (f+1) n (kR W.kd) out=if n=0 then some (kR W.kd,out) else if (rcB (kR W.kd) n&&decide (ptE (pageOf L n.toNat)=0))=true then chB L f (ptN (pageOf L n.toNat)) ((kR W.kd).set n.toNat true) (out++ptL (pageOf L n.toNat)) else none:=rfl
  have e2:chGo L kd (f+1) n W out=if n=0∨W.bad=true then (W,out) else if (wpg W n kd).bad=true then (wpg W n kd,out) else
   chGo L kd f (ptN (pageOf L n.toNat)) {wpg W n kd with bad:=!(ptE (pageOf L n.toNat)==0)||decide (1048576<out.length+(ptL (pageOf L n.toNat)).length)} (out++ptL (pageOf L n.toNat)):=rfl
  by_cases h0:n=0
  ·left;rw [if_pos h0] at e1;rw [if_pos (.inl h0)] at e2;exact ⟨W,_,out,e1,e2,hb,rfl,rfl,rfl,rfl,ho⟩
  ·have hn2:2≤n:=by omega
   rw [if_neg h0] at e1;rw [if_neg (by rw [hb];simpa using h0)] at e2;have hkk:=kdB_kR (W:=W) hk hn2;cases hr:rcB (kR W.kd) n with
   |false=>
    right;rw [hr] at hkk e1;rw [wpg_no hkk,if_pos rfl] at e2;rw [e1,e2];exact ⟨by simp,rfl⟩
   |true=>
    rw [hr] at hkk e1;obtain ⟨r1,r2,r3⟩:=rcB_out hr;rw [kR_len] at r2;rw [wpg_yes hkk] at e2;have hw1:({W with kd:=W.kd.set n.toNat kd}:Wk).bad=false:=hb;rw [if_neg (by rw [hw1];simp)] at e2;have hcs:=cnt_set (R:=kR W.kd) (n:=n.toNat) (by rw [kR_len];omega) r3;have hcl:=cnt_le ((kR W.kd).set n.toNat true);rw [List.length_set,kR_len] at hcl;have hpl:=ptL_le (z:=pageOf L n.toNat);have hno:¬1048576<out.length+(ptL (pageOf L n.toNat)).length:=by omega
    rw [decide_eq_false hno,Bool.or_false] at e2;rw [e1,e2];by_cases he:ptE (pageOf L n.toNat)=0
    ·rw [he,decide_eq_true rfl];simp only [Bool.and_self,if_true,beq_self_eq_true,Bool.not_true];have hks:=kR_set (kd:=W.kd) (n:=n.toNat) hk0;rcases ih (ptN (pageOf L n.toNat)) {W with kd:=W.kd.set n.toNat kd,bad:=false} (out++ptL (pageOf L n.toNat)) rfl (ptN_in (page_bys hL _)) (by simp only [List.length_set];exact h4) (by simp only [List.length_set,hks];omega) (by simp only [hks,List.length_append];omega) with ⟨W',R',out',i1,i2,i3,i4,i5,i6,i7,i8⟩|⟨i1,i2⟩
     ·left;simp only [hks] at i1;refine ⟨W',R',out',i1,i2,i3,i4,?_,i6,i7,i8⟩;rw [i5];simp
     ·right;simp only [hks] at i1;exact ⟨i1,i2⟩
    ·right;have he':(ptE (pageOf L n.toNat)==0)=false:=by simpa using he
     rw [decide_eq_false he,he'];refine ⟨by simp,?_⟩;cases f with
     |zero=>rfl
     |succ f=>
      unfold chGo;rw [if_pos (.inr rfl)];rfl
def suT (L:List Int) (S:Sp):Option Tc:=if S.r=0 then some tc0 else tcT L (S.h-1).toNat true S.r
structure SuOk (L:List Int) (S:Sp) (T:Tc):Prop where
 t:suT L S=some T
 nd:T.tp.Nodup
 ap:∀n∈T.tp,¬n∈pgs T.pc
 pc:∀p∈T.pc,pcK L p=true
 b:T.s.b=S.b
 l:T.s.l=S.l
def usedL (R:List Bool):List Int:=bitsP (fun i=>decide (i<2)||R.getD i false) R.length
def rN (L:List Int):List Bool:=List.replicate (pgN L) false
def rsB (R:List Bool):Nat→List Int
 |0=>[]
 |k+1=>if R.getD k false=true then rsB R k++[(k:Int)] else rsB R k
def Su (L:List Int) (S:Sp) (r:Rp):Prop:=S.p=(pgN L:Int)∧∃T R2 st R3 fr,SuOk L S T∧chB L (pgN L+1) S.s (mkR (rN L) (T.tp++pgs T.pc)) []=some (R2,st)∧chB L (pgN L+1) S.f R2 []=some (R3,fr)∧fr=usedL R3∧r=⟨S,-1,T.pc,txs L T.pc,st,rsB R3 (pgN L),S.h⟩
theorem sm3_app (a b:List C4):sm3 (a++b)=addS (sm3 a) (sm3 b):=by
 simp [sm3,addS]
theorem tcK_sm {g:Int→Option Tc} (hg:∀n T,g n=some T→T.s=sm3 T.pc):∀(l:List C4) (T:Tc),tcK g l=some T→T.s=sm3 T.pc:=by
 intro l
 induction l with
 |nil=>
  intro T h;unfold tcK at h;simp only [Option.some.injEq] at h;subst h;rfl
 |cons k l ih=>
  intro T h;unfold tcK at h;split at h
  ·cases h
  ·next x hx=>
   split at h
   ·split at h
    ·cases h
    ·next y hy=>
     simp only [Option.some.injEq] at h;subst h;simp only [tcA];rw [sm3_app,hg _ _ hx,ih _ hy]
   ·cases h
theorem tcT_sm {L:List Int}:∀(lv:Nat) (root:Bool) (n:Int) (T:Tc),tcT L lv root n=some T→T.s=sm3 T.pc:=by
 intro lv
 induction lv with
 |zero=>
  intro root n T h;unfold tcT at h;split at h
  ·simp only [Option.some.injEq] at h;subst h;rfl
  ·cases h
 |succ lv ih=>
  intro root n T h;unfold tcT at h;split at h
  ·split at h
   ·cases h
   ·next y hy=>
    simp only [Option.some.injEq] at h;subst h;have:=tcK_sm (fun n T=>ih false n T) _ _ hy;exact this
  ·cases h
theorem suT_sm {L:List Int} {S:Sp} {T:Tc} (h:suT L S=some T):T.s=sm3 T.pc:=by
 unfold suT at h;split at h
 ·simp only [Option.some.injEq] at h;subst h;rfl
 ·exact tcT_sm _ _ _ _ h
theorem suT_in {L:List Int} (hL:Bys L) {S:Sp} {T:Tc} (h:suT L S=some T):TcIn (pgN L) T:=by
 unfold suT at h;split at h
 ·simp only [Option.some.injEq] at h;subst h;exact ⟨fun n hn=>(by cases hn),fun n hn=>(by cases hn)⟩
 ·exact tcT_in hL _ _ _ _ h
theorem txs_len {L:List Int}:∀(l:List C4),(∀p∈l,okC false p=true)→(∀p∈l,pcK L p=true)→((txs L l).length:Int)=(l.map (·.c)).sum:=by
 intro l
 induction l with
 |nil=>intro _ _;rfl
 |cons p l ih=>
  intro h1 h2;have hp:=h2 p (List.mem_cons_self ..);unfold pcK at hp;simp only [Bool.and_eq_true,decide_eq_true_eq] at hp;have hb:=okC_bd (h1 p (List.mem_cons_self ..));have hl:=seg_len hb.2.1.1 (by omega) hp.2.2.1;have:=ih (fun q hq=>h1 q (List.mem_cons_of_mem _ hq)) (fun q hq=>h2 q (List.mem_cons_of_mem _ hq));simp only [txs,List.flatMap_cons,List.length_append,List.map_cons,List.sum_cons] at this ⊢;unfold pcT at this ⊢;omega
theorem chGo_bad {L:List Int} {kd:Int} {f:Nat} {n:Int} {W:Wk} {out:List Int} (h:W.bad=true):chGo L kd f n W out=(W,out):=by
 cases f with
 |zero=>rfl
 |succ f=>unfold chGo;rw [if_pos (.inr h)]
theorem chB_bys {L:List Int} (hL:Bys L):∀(f:Nat) (n:Int) (R:List Bool) (out:List Int) (x:List Bool × List Int),Bys out→chB L f n R out=some x→Bys x.2∧x.1.length=R.length:=by
 intro f
 induction f with
 |zero=>intro n R out x _ h;cases h
 |succ f ih=>
  intro n R out x ho h;unfold chB at h;split at h
  ·simp only [Option.some.injEq] at h;subst h;exact ⟨ho,rfl⟩
  ·split at h
   ·have:=ih _ _ _ _ (ho.app ?_) h
    ·rw [List.length_set] at this;exact this
    ·unfold ptL;split
     ·intro z hz;exact opP_bys (page_bys hL _) z (List.mem_of_mem_drop (List.mem_of_mem_take hz))
     ·intro z hz;cases hz
   ·cases h
theorem wk0_kR (L:List Int):kR (wk0 (pgN L)).kd=rN L:=by
 unfold kR wk0 rN;simp
theorem wk0_at (N i:Nat):(wk0 N).kd.getD i 0=0:=by
 unfold wk0;simp only [List.getD_eq_getElem?_getD,List.getElem?_replicate];split<;>rfl
theorem rs_eq (kd:List Int):∀k,k≤kd.length→rsg kd k=rsB (kR kd) k:=by
 intro k
 induction k with
 |zero=>intro _;rfl
 |succ k ih=>
  intro hk;unfold rsg rsB;rw [ih (by omega),kR_at (by omega)];by_cases h:kd.getD k 0=0
  ·rw [if_pos h,if_neg (by rw [h];simp)]
  ·rw [if_neg h,if_pos (by simpa using h)]
theorem fr_iff {fr kd:List Int} {N:Nat} (hf:Bys fr) (hk:kd.length=N):
  (decide (fr.length=(N+7)/8)&&(List.range (fr.length*8)).all (frB fr kd N))=true↔fr=usedL (kR kd):=by
 have key:∀i,(decide (i<2)||(decide (i<N)&&!(kd.getD i 0==0)))=(decide (i<2)||(kR kd).getD i false):=fun i=>by
  by_cases hi:i<N
  ·rw [kR_at (by omega),decide_eq_true hi,Bool.true_and]
  ·rw [decide_eq_false hi]
   have:(kR kd).getD i false=false:=by
    rw [List.getD_eq_getElem?_getD,List.getElem?_eq_none (by rw [kR_len];omega)];rfl
   rw [this];rfl
 constructor
 ·intro h;rw [Bool.and_eq_true,decide_eq_true_eq] at h;rw [←bitsP_bitR hf h.1];unfold usedL;rw [kR_len,hk];refine bitsP_ext fun i hi=>?_
  have:=List.all_eq_true.1 h.2 i (by rw [List.mem_range,h.1];exact hi);unfold frB at this;rw [key,beq_iff_eq] at this;exact this
 ·intro h;have hl:fr.length=(N+7)/8:=by rw [h];unfold usedL;rw [bitsP_len,kR_len,hk]
  rw [Bool.and_eq_true,decide_eq_true_eq];refine ⟨hl,List.all_eq_true.2 fun i hi=>?_⟩;rw [List.mem_range,hl] at hi;unfold frB;rw [key,beq_iff_eq,h];unfold usedL;rw [bitR_bitsP (by rw [kR_len,hk];exact hi)]
theorem suOk_fit {L:List Int} (hL:Bys L) {S:Sp} (hS:okS S=true) {T:Tc} (h:SuOk L S T):Fit L (wk0 (pgN L)) T:=by
 refine ⟨⟨h.nd,fun n _=>wk0_at _ _,fun x _=>.inl (wk0_at _ _),h.ap⟩,h.pc,?_⟩;have h1:=txs_len T.pc (suT_in hL h.t).2 h.pc;have h2:=suT_sm h.t;have h3:=h.b;rw [h2] at h3;simp only [sm3] at h3;unfold okS fitS at hS;simp only [Bool.and_eq_true,decide_eq_true_eq] at hS;have:(wk0 (pgN L)).tx++txs L T.pc=txs L T.pc:=rfl;rw [this];omega
theorem fit_suOk {L:List Int} {S:Sp} {T:Tc} (ht:suT L S=some T) (h:Fit L (wk0 (pgN L)) T) (hb:T.s.b=S.b) (hl:T.s.l=S.l):SuOk L S T:=
 ⟨ht,h.vd.nd,h.vd.ap,h.pc,hb,hl⟩
theorem su_wa {L:List Int} (hL:Bys L) (h4:pgN L≤4096) {S:Sp} (hS:okS S=true):(waE L S=0∧Su L S (waR L S))∨(waE L S=8∧∀r,¬Su L S r):=by
 by_cases hp:S.p=(pgN L:Int)
 case neg=>
  right;exact ⟨by unfold waE;rw [if_pos hS,if_neg hp],fun r h=>hp h.1⟩
 have hS':=hS;unfold okS fitS ldB at hS';simp only [Bool.and_eq_true,decide_eq_true_eq] at hS';have hs2:S.s=0∨2≤S.s:=by omega
 have hf2:S.f=0∨2≤S.f:=by omega
 have hE:waE L S=if waB L S=true then 0 else 8:=by unfold waE;rw [if_pos hS,if_pos hp]
 have hN:8≤pgN L:=by omega
 have hbadE:(wkD L S).1.bad=true→waE L S=8:=fun h=>by
  rw [hE];unfold waB;rw [h];rfl
 have hlen0:(wk0 (pgN L)).kd.length=pgN L:=by simp [wk0]
 have hA:Goes L (wk0 (pgN L)) (suT L S) (wkA L S):=by
  unfold suT wkA;split
  ·exact .inl ⟨tc0,rfl,fit_nil (by simp [wk0]) _,by rw [show tc0=⟨[],[],s30⟩ from rfl,ap_nil rfl]⟩
  ·exact wtr_goes hL _ _ _ _ rfl hlen0 (by simp [wk0])
 have hAbad:(wkB L S).bad=true→(wkD L S).1.bad=true:=fun h=>by
  have h1:wkC L S=(wkB L S,[]):=by unfold wkC;exact chGo_bad h
  unfold wkD;rw [h1,chGo_bad h];exact h
 rcases hA with ⟨T,ht,hF,hx⟩|⟨hb,hno⟩
 ·by_cases hsum:T.s.b=S.b∧T.s.l=S.l
  ·have hok:=fit_suOk ht hF hsum.1 hsum.2
   have hB:wkB L S=apW L (wk0 (pgN L)) T:=by
    unfold wkB;rw [hx];simp only;rw [hsum.1,hsum.2];simp [apW]
   have hBl:(wkB L S).kd.length=pgN L:=by rw [hB];unfold apW;rw [mkd_len,hlen0]
   have hBk:kR (wkB L S).kd=mkR (rN L) (T.tp++pgs T.pc):=by rw [hB];unfold apW;rw [kR_mkd,wk0_kR]
   have hBb:(wkB L S).bad=false:=by rw [hB];rfl
   rcases ch_goes hL (kd:=115) (by decide) (by decide) (pgN L+1) S.s (wkB L S) [] hBb hs2 (by omega) (by omega) (by simp) with ⟨W2,R2,st,i1,i2,i3,i4,i5,i6,i7,-⟩|⟨i1,i2⟩
   ·have hC:wkC L S=(W2,st):=i2;rcases ch_goes hL (kd:=102) (by decide) (by decide) (pgN L+1) S.f W2 [] i3 hf2 (by omega) (by omega) (by simp) with ⟨W3,R3,fr,j1,j2,j3,j4,j5,j6,j7,-⟩|⟨j1,j2⟩
    ·have hD:wkD L S=(W3,fr):=by unfold wkD;rw [hC];exact j2
     rw [hBk] at i1;rw [i4] at j1;have hfb:=chB_bys hL _ _ _ _ _ (fun z hz=>(by cases hz)) j1;have hW3:W3.kd.length=pgN L:=by rw [j5,i5,hBl]
     have hfi:=fr_iff hfb.1 hW3
     have hwb:waB L S=true↔fr=usedL R3:=by
      unfold waB;rw [hD];simp only;rw [j3,Bool.not_false,Bool.true_and,hfi,j4]
     by_cases hu:fr=usedL R3
     ·left;have hE0:waE L S=0:=by rw [hE,if_pos (hwb.2 hu)]
      refine ⟨hE0,hp,T,R2,st,R3,fr,hok,i1,j1,hu,?_⟩;unfold waR;rw [if_pos hE0,hD,hC];simp only;rw [j6,i6,j7,i7,hB,rs_eq _ _ (by omega),j4];rfl
     ·right;refine ⟨by rw [hE,if_neg (fun e=>hu (hwb.1 e))],fun r hr=>hu ?_⟩;obtain ⟨-,T',R2',st',R3',fr',k1,k2,k3,k4,-⟩:=hr;have:T'=T:=Option.some.inj (k1.t.symm.trans ht);subst this;rw [i1] at k2;simp only [Option.some.injEq,Prod.mk.injEq] at k2;obtain ⟨rfl,rfl⟩:=k2;rw [j1] at k3;simp only [Option.some.injEq,Prod.mk.injEq] at k3;obtain ⟨rfl,rfl⟩:=k3;exact k4
    ·right;have hD:(wkD L S).1.bad=true:=by unfold wkD;rw [hC];exact j2
     refine ⟨hbadE hD,fun r hr=>?_⟩;obtain ⟨-,T',R2',st',R3',fr',k1,k2,k3,k4,-⟩:=hr;have:T'=T:=Option.some.inj (k1.t.symm.trans ht);subst this;rw [hBk] at i1;rw [i1] at k2;simp only [Option.some.injEq,Prod.mk.injEq] at k2;obtain ⟨rfl,rfl⟩:=k2;rw [i4] at j1;rw [j1] at k3;cases k3
   ·right;have hC:(wkC L S).1.bad=true:=i2;have hD:(wkD L S).1.bad=true:=by unfold wkD;rw [chGo_bad hC];exact hC
    refine ⟨hbadE hD,fun r hr=>?_⟩;obtain ⟨-,T',R2',st',R3',fr',k1,k2,k3,k4,-⟩:=hr;have:T'=T:=Option.some.inj (k1.t.symm.trans ht);subst this;rw [hBk] at i1;rw [i1] at k2;cases k2
  ·right
   have hB:(wkB L S).bad=true:=by
    unfold wkB;rw [hx];simp only
    have:(T.s.b==S.b&&T.s.l==S.l)=false:=by
     rw [Bool.and_eq_false_iff];by_cases h1:T.s.b=S.b
     ·right;have:¬T.s.l=S.l:=fun h2=>hsum ⟨h1,h2⟩
      simpa using this
     ·left
      simpa using h1
    rw [this];simp
   refine ⟨hbadE (hAbad hB),fun r hr=>hsum ?_⟩;obtain ⟨-,T',R2',st',R3',fr',k1,-⟩:=hr;have:T'=T:=Option.some.inj (k1.t.symm.trans ht);subst this;exact ⟨k1.b,k1.l⟩
 ·right;have hB:(wkB L S).bad=true:=by unfold wkB;simp only;rw [hb];rfl
  refine ⟨hbadE (hAbad hB),fun r hr=>?_⟩;obtain ⟨-,T',R2',st',R3',fr',k1,-⟩:=hr;exact hno T' k1.t (suOk_fit hL hS k1)
def OutAt (w:World) (v:Value) (zs:List Int):Prop:=
 (v=.slice none 0 0∧zs=[])∨∃g off cap cur,v=.slice (some ⟨g,off,none⟩) zs.length cap∧w.heap[g]?=some (.cells cur 5 (0,0))∧zs.length≤cap∧cap≤maxLen∧off+cap≤cur.size∧
  ∀i,i<zs.length→cur[off+i]?=some (.int .u8 (zs.getD i 0))
theorem OutAt.keep {w w':World} {v:Value} {zs:List Int} (h:OutAt w v zs) (k:∀g,v.ownBlock=some g→w'.heap[g]?=w.heap[g]?):OutAt w' v zs:=by
 rcases h with h|⟨g,off,cap,cur,rfl,hg,rest⟩
 ·exact .inl h
 ·exact .inr ⟨g,off,cap,cur,rfl,(k g rfl).trans hg,rest⟩
def wcells (x:Nat × List Int):List Value:=.int .i64 x.1::x.2.map (Value.int .u8)
def scells (l:List (Nat × List Int)):List Value:=l.flatMap wcells
structure DevC (w:World) (p gN gL cN cL:Nat) (vS vO:Value) (f:Int) (D:Dv):Prop where
 cells:w.heap[p]?=some (.cells #[.slice (some ⟨gN,0,none⟩) D.now.length cN,.slice (some ⟨gL,0,none⟩) D.sure.length cL,vS,vO,.int .i64 f,.int .i64 D.ops,.bool D.dead] 92 (0,0))
 now:Own 0 w (.slice (some ⟨gN,0,none⟩) D.now.length cN) D.now
 sure:Own 0 w (.slice (some ⟨gL,0,none⟩) D.sure.length cL) D.sure
 since:w.ownsRow 0 223 257 vS D.since.length (scells D.since)
 out:OutAt w vO D.out
 f1: -9223372036854775808≤f
 f2:f≤9223372036854775807
 fuse:max f (-1)=D.fuse
 pN:p≠gN
 pL:p≠gL
 NL:gN≠gL
 pS:vS.ownBlock≠some p
 NS:vS.ownBlock≠some gN
 LS:vS.ownBlock≠some gL
 pO:vO.ownBlock≠some p
 NO:vO.ownBlock≠some gN
 LO:vO.ownBlock≠some gL
 SO:∀g,vS.ownBlock=some g→vO.ownBlock≠some g
def foot (p gN gL:Nat) (vS vO:Value) (k:Nat):Prop:=k=p∨k=gN∨k=gL∨vS.ownBlock=some k∨vO.ownBlock=some k
def Dev (w:World) (p:Nat) (F:Nat→Prop) (D:Dv):Prop:=
 D.ok∧(∀k,F k→k<w.heap.size)∧∃gN gL cN cL vS vO f,DevC w p gN gL cN cL vS vO f D∧∀k,foot p gN gL vS vO k→F k
theorem DevC.keep {w w':World} {p gN gL cN cL:Nat} {vS vO:Value} {f:Int} {D:Dv} (h:DevC w p gN gL cN cL vS vO f D) (k:∀g,foot p gN gL vS vO g→w'.heap[g]?=w.heap[g]?):DevC w' p gN gL cN cL vS vO f D:=
 {h with
  cells:=(k p (.inl rfl)).trans h.cells
  now:=owns_keep h.now (fun g hg=>k g (by simp [Value.ownBlock] at hg;exact .inr (.inl hg.symm)))
  sure:=owns_keep h.sure (fun g hg=>k g (by simp [Value.ownBlock] at hg;exact .inr (.inr (.inl hg.symm))))
  since:=owns_keep h.since (fun g hg=>k g (.inr (.inr (.inr (.inl hg)))))
  out:=h.out.keep (fun g hg=>k g (.inr (.inr (.inr (.inr hg)))))}
theorem Dev.keep {w w':World} {p:Nat} {F:Nat→Prop} {D:Dv} (h:Dev w p F D) (hs:w.heap.size≤w'.heap.size) (k:∀g,F g→w'.heap[g]?=w.heap[g]?):Dev w' p F D:=by
 obtain ⟨h1,h2,gN,gL,cN,cL,vS,vO,f,h3,h4⟩:=h;exact ⟨h1,fun g hg=>Nat.lt_of_lt_of_le (h2 g hg) hs,gN,gL,cN,cL,vS,vO,f,h3.keep (fun g hg=>k g (h4 g hg)),h4⟩
theorem Dev.ch {w w':World} {p:Nat} {F G:Nat→Prop} {D:Dv} (h:Dev w p F D) (hc:Ch w.heap.size G w w') (hd:∀k,F k→¬G k):Dev w' p F D:=
 h.keep hc.size (fun g hg=>hc.block g (h.2.1 g hg) (hd g hg))
theorem Dev.below {w w':World} {p:Nat} {F:Nat→Prop} {D:Dv} (h:Dev w p F D) (hc:Below w.heap.size w w'):Dev w' p F D:=
 h.ch (Ch.of (fun _=>False) hc) (fun _ _ h=>h)
theorem Dev.p {w:World} {p:Nat} {F:Nat→Prop} {D:Dv} (h:Dev w p F D):F p∧p<w.heap.size:=by
 obtain ⟨_,h2,gN,gL,cN,cL,vS,vO,f,h3,h4⟩:=h;exact ⟨h4 p (.inl rfl),h2 p (h4 p (.inl rfl))⟩
theorem DevC.at {w:World} {p gN gL cN cL:Nat} {vS vO:Value} {f:Int} {D:Dv} (h:DevC w p gN gL cN cL vS vO f D):
  w.cell? ⟨p,0,none⟩=some (.slice (some ⟨gN,0,none⟩) D.now.length cN)∧w.cell? ⟨p,1,none⟩=some (.slice (some ⟨gL,0,none⟩) D.sure.length cL)∧w.cell? ⟨p,2,none⟩=some vS∧w.cell? ⟨p,3,none⟩=some vO∧
  w.cell? ⟨p,4,none⟩=some (.int .i64 f)∧w.cell? ⟨p,5,none⟩=some (.int .i64 D.ops)∧w.cell? ⟨p,6,none⟩=some (.bool D.dead)∧∀i,w.frozen? ⟨p,i,none⟩=false:=by
 have hc:=h.cells;refine ⟨?_,?_,?_,?_,?_,?_,?_,fun i=>?_⟩
 all_goals first|(rw [cell_of_row w p _ _ _ (0,0) hc];rfl)|skip
 unfold World.frozen?;rw [hc];simp
end Go.Proofs.YtjllhcifmfhkmaaGreat.Oct
