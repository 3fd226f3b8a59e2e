/- Part of a proof. -/
import Derived.Test.YtaijfhadecennaaGreatSf
import Derived.Test.YtaijfhadecennaaGreatQg
import Derived.Test.YtaijfhadecennaaGreatKd
import Derived.Test.YtaijfhadecennaaGreatStg
namespace Go.Proofs.YtaijfhadecennaaGreat.Oct
open Go.RowKit
theorem bitL_len (S:List Int):(bitL S).length=(S.length+7)/8:=yY _ _
theorem bitL_bys (S:List Int):Bys (bitL S):=zZ _ _
theorem trS_at {o p:Int} {S:List Int} {i:Nat} (h:i<S.length):(trS o p S).getD i 0=trZ o p (S.getD i 0):=by
 unfold trS;rw [jA,qH,jC h,jA,jC h];rfl
theorem own_step {g n c:Nat} {w w':World} {F F':Nat->Prop} {zs:List Int} (h:Own 0 w (.slice (some ⟨g,0,none⟩) n c) zs) (hg:¬F g) (st:Step F F' w w'):Own 0 w' (.slice (some ⟨g,0,none⟩) n c) zs/\¬F' g:=by
 have hl:=h.lt2.2;refine ⟨h.kept (st.1.block g hl hg),fun e=>?_⟩;rcases st.2 g e with e|e
 ·exact hg e
 ·omega
def tkS:Nat->List Int->List Int
 |0,P=>P
 |n+1,P=>alL (tkS n P)
def tkG:Nat->List Int->List Int
 |0,_=>[]
 |n+1,P=>tkG n P++[alN (tkS n P)]
def gvA (P:List Int) (l:List Int):List Int:=l.foldl gvL P
theorem JF (n:Nat) (P:List Int):(tkS n P).length=P.length:=by
 induction n with
 |zero=>rfl
 |succ n ih=>rw [tkS,alL_len,ih]
theorem zA (n:Nat) (P:List Int):(tkG n P).length=n:=by
 induction n with
 |zero=>rfl
 |succ n ih=>rw [tkG,jN,ih];rfl
theorem tkS_ok {P:List Int} (h:SpOk P) (n:Nat):SpOk (tkS n P):=by
 induction n with
 |zero=>exact h
 |succ n ih=>exact alL_ok ih
theorem UU (l:List Int):∀P:List Int,(gvA P l).length=P.length:=by
 induction l with
 |nil=>intro P;rfl
 |cons z l ih=>intro P;rw [gvA,yI];exact (ih _).trans (gvL_len P z)
theorem gvA_ok (l:List Int):∀{P:List Int},SpOk P->SpOk (gvA P l):=by
 induction l with
 |nil=>intro P h;exact h
 |cons z l ih=>intro P h;rw [gvA,yI];exact ih (gvL_ok h z)
theorem cnt_pos {P:List Int}:0<P.count 0↔frI P<P.length:=by
 rw [List.count_pos_iff];unfold frI;rw [List.findIdx_lt_length];constructor
 ·intro h;exact ⟨0,h,rfl⟩
 ·rintro ⟨x,hx,e⟩;have:x=0:=by simpa using e
  rw [<-this];exact hx
theorem cnt_al {P:List Int} (h:frI P<P.length):(alL P).count 0+1=P.count 0:=by
 unfold alL;rw [if_pos h];have h0:=kY h;rw [jA,jC h,qJ] at h0;have hp:0<P.count 0:=cnt_pos.2 h;rw [List.count_set (h:=h),h0];simp;omega
theorem tk_cnt {P:List Int}:∀n,n<=P.count 0->(tkS n P).count 0+n=P.count 0:=by
 intro n
 induction n with
 |zero=>intro _;rfl
 |succ n ih=>
  intro h;have h1:=ih (by omega);have h2:0<(tkS n P).count 0:=by omega
  have h3:=cnt_al (cnt_pos.1 h2);rw [tkS];omega
theorem tk_room {P:List Int} {n:Nat} (h:n<=P.count 0):alE (tkS n P)=if n<P.count 0 then 0 else 6:=by
 have h1:=tk_cnt n h;unfold alE;by_cases h2:n<P.count 0
 ·rw [if_pos h2,if_pos (cnt_pos.1 (show 0<(tkS n P).count 0 by omega))]
 ·have h4:¬0<(tkS n P).count 0:=by omega
  rw [if_neg h2,if_neg (fun h3=>h4 (cnt_pos.2 h3))]
theorem tk_at {P:List Int}:∀n,n<=P.count 0->
  (∀j,j<n->0<=(tkG n P).getD j 0/\(tkG n P).getD j 0<(P.length:Int)/\P.getD ((tkG n P).getD j 0).toNat 0=0/\∀i,i<j->(tkG n P).getD i 0≠(tkG n P).getD j 0)/\
  ∀k,k<P.length->(tkS n P).getD k 0=if (k:Int)∈tkG n P then 2 else P.getD k 0:=by
 intro n
 induction n with
 |zero=>intro _;exact ⟨fun j h=>absurd h (Nat.not_lt_zero _),fun k _=>by simp [tkS,tkG]⟩
 |succ n ih=>
  intro h;obtain ⟨h1,h2⟩:=ih (by omega);have hc:=tk_cnt (P:=P) n (by omega);have hf:frI (tkS n P)<(tkS n P).length:=cnt_pos.1 (show 0<(tkS n P).count 0 by omega);have hf0:=kY hf;rw [JF] at hf;have hN:alN (tkS n P)=(frI (tkS n P):Int):=by unfold alN;rw [JF,if_pos hf]
  have hl:=zA n P;have hat:=h2 _ hf;rw [hf0] at hat;have hnm:¬(frI (tkS n P):Int)∈tkG n P:=fun hm=>by rw [if_pos hm] at hat;cases hat
  rw [if_neg hnm] at hat
  have hg:∀j,(tkG (n+1) P).getD j 0=if j<n then (tkG n P).getD j 0 else if j=n then (frI (tkS n P):Int) else 0:=fun j=>by
   rw [tkG,QM,hl,hN];by_cases hj:j<n
   ·rw [if_pos hj,if_pos hj]
   ·rw [if_neg hj,if_neg hj];by_cases hj2:j=n
    ·rw [if_pos hj2,hj2,Nat.sub_self];rfl
    ·rw [if_neg hj2,jA,qD (by simp;omega)];rfl
  have hmem:∀{j:Nat},j<n->(tkG n P).getD j 0∈tkG n P:=fun {j} hj=>by
   rw [jA,jC (by omega)];exact qB _
  refine ⟨fun j hj=>?_,fun k hk=>?_⟩
  ·rw [hg j];by_cases hj2:j<n
   ·rw [if_pos hj2];obtain ⟨a,b,c,d⟩:=h1 j hj2;exact ⟨a,b,c,fun i hi=>by rw [hg i,if_pos (by omega)];exact d i hi⟩
   ·have:j=n:=by omega
    subst this;rw [if_neg hj2,if_pos rfl];refine ⟨by omega,by omega,by rw [jS];exact hat.symm,fun i hi=>?_⟩;rw [hg i,if_pos hi];exact fun e=>hnm (by rw [<-e];exact hmem hi)
  ·rw [tkS];have:(tkS n P).length=P.length:=JF n P;unfold alL;rw [if_pos (by omega),tkG,hN];by_cases hkf:k=frI (tkS n P)
   ·subst hkf;rw [if_pos (by simp),jA,qX (by omega)];rfl
   ·rw [jA,xJ (fun e=>hkf e.symm),<-jA,h2 k hk];have:(k:Int)≠(frI (tkS n P):Int):=by omega
    simp [this]
theorem gvA_at:∀(l:List Int) {P:List Int},(∀z∈l,2<=z/\z<(P.length:Int)/\P.getD z.toNat 0=1)->l.Nodup->∀k,(gvA P l).getD k 0=if (k:Int)∈l then 3 else P.getD k 0:=by
 intro l
 induction l with
 |nil=>intro P _ _ k;simp [gvA]
 |cons z l ih=>
  intro P h hn k;rw [xK] at hn;obtain ⟨a,b,c⟩:=h z (by simp)
  have e:gvL P z=P.set z.toNat 3:=by
   unfold gvL gvB;rw [jE a,jE b,Bool.and_true,if_pos rfl,if_neg (by rw [c];decide),if_pos c]
  have hg:∀j:Nat,(P.set z.toNat 3).getD j 0=if (j:Int)=z then 3 else P.getD j 0:=fun j=>by
   by_cases hj:(j:Int)=z
   ·rw [if_pos hj,jA,show j=z.toNat by omega,qX (by omega)];rfl
   ·rw [if_neg hj,jA,xJ (by omega),<-jA]
  have h2:=ih (P:=P.set z.toNat 3) (fun y hy=>by
   obtain ⟨a',b',c'⟩:=h y (jM _ hy);refine ⟨a',by rw [jY];exact b',?_⟩;rw [hg,if_neg (by rw [qF (by omega)];exact fun e=>hn.1 (by rw [<-e];exact hy))];exact c') hn.2 k
  have e2:gvA P (z::l)=gvA (P.set z.toNat 3) l:=by rw [gvA,yI,e];rfl
  rw [e2,h2,hg k];by_cases hk:(k:Int)∈l
  ·rw [if_pos hk,if_pos (jM _ hk)]
  ·rw [if_neg hk];by_cases hkz:(k:Int)=z
   ·rw [if_pos hkz,if_pos (by rw [hkz];simp)]
   ·rw [if_neg hkz,if_neg (by simp [hkz,hk])]
structure PInv (n:Nat) (P C:List Int):Prop where
 len:P.length=n
 ok:SpOk P
 one:∀k,k<n->(P.getD k 0=1↔k<2\/(k:Int)∈C)
 two:∀k,k<n->P.getD k 0≠2
 c:CtOk C
 cn:∀z∈C,z<(n:Int)
theorem yW {C:List Int} (h:CtOk C):∀z∈C,2<=z/\z<4096:=fun z hz=>by
 obtain ⟨i,hi,rfl⟩:=xV hz;have:=(h i hi).1;rw [jA,jC hi] at this;exact this
theorem YO {C:List Int} (h:CtOk C):C.Nodup:=by
 rw [xU,List.pairwise_iff_getElem];intro i j hi hj hij e;have:=(h j hj).2 i hij;rw [jA,jC hi,jA,jC hj] at this;exact this e
section
variable {n m:Nat} {P C:List Int}
theorem PInv.pg (h:PInv n P C) (hm:m<=P.count 0):CtOk (tkG m P)/\(∀z∈tkG m P,z<(n:Int))/\∀z∈tkG m P,¬z∈C/\P.getD z.toNat 0=0:=by
 obtain ⟨h1,_⟩:=tk_at m hm;have hl:=zA m P;have h4:=h.ok.hi;have hlen:=h.len;have low:∀k,k<2->P.getD k 0=1:=fun k hk=>(h.one k (by have:=h.ok.lo;omega)).2 (.inl hk)
 have ix:∀z∈tkG m P,∃j,j<m/\(tkG m P).getD j 0=z:=fun z hz=>by
  obtain ⟨i,hi,rfl⟩:=xV hz;exact ⟨i,by omega,by rw [jA,jC hi];rfl⟩
 refine ⟨fun j hj=>?_,fun z hz=>?_,fun z hz=>?_⟩
 ·rw [hl] at hj;obtain ⟨a,b,c,d⟩:=h1 j hj;refine ⟨⟨?_,by omega⟩,d⟩;by_cases h2:((tkG m P).getD j 0).toNat<2
  ·rw [low _ h2] at c;cases c
  ·omega
 ·obtain ⟨j,hj,rfl⟩:=ix z hz;have:=h1 j hj;omega
 ·obtain ⟨j,hj,rfl⟩:=ix z hz;obtain ⟨a,b,c,d⟩:=h1 j hj;refine ⟨fun hC=>?_,c⟩;have:=(h.one ((tkG m P).getD j 0).toNat (by omega)).2 (.inr (by rw [qF a];exact hC));rw [this] at c;cases c
theorem PInv.behind (h:PInv n P C) (hm:m<=P.count 0):∀k,k<n->(gvA (tkS m P) C).getD k 0=if (k:Int)∈C then 3 else if (k:Int)∈tkG m P then 2 else P.getD k 0:=by
 intro k hk;obtain ⟨_,h2⟩:=tk_at m hm;obtain ⟨p1,p2,p3⟩:=h.pg hm;have hlen:=h.len
 rw [gvA_at C (fun z hz=>by
  have h3:=yW h.c z hz;have h4:=h.cn z hz;refine ⟨h3.1,by rw [JF];omega,?_⟩;rw [h2 _ (by omega),if_neg (by rw [qF (by omega)];exact fun e=>(p3 z e).1 hz)];exact (h.one z.toNat (by omega)).2 (.inr (by rw [qF (by omega)];exact hz))) (YO h.c),h2 k (by omega)]
theorem PInv.done (h:PInv n P C) (hm:m<=P.count 0):PInv n (trS 1 0 (gvA (tkS m P) C)) (tkG m P)/\∀k,k<n->(trS 1 0 (gvA (tkS m P) C)).getD k 0=0\/(trS 1 0 (gvA (tkS m P) C)).getD k 0=1:=by
 have hb:=h.behind hm;obtain ⟨p1,p2,p3⟩:=h.pg hm;have hlen:=h.len;have hl:(gvA (tkS m P) C).length=n:=by rw [UU,JF,hlen]
 have hat:∀k,k<n->(trS 1 0 (gvA (tkS m P) C)).getD k 0=if k<2\/(k:Int)∈tkG m P then 1 else 0:=fun k hk=>by
  rw [trS_at (by omega),hb k hk];have h1:=h.one k hk;have h2:=h.two k hk;have h3:=h.ok.at k;by_cases hC:(k:Int)∈C
  ·rw [if_pos hC,if_neg]
   ·rfl
   ·rintro (e|e)
    ·have:=yW h.c _ hC;omega
    ·exact (p3 _ e).1 hC
  ·rw [if_neg hC];by_cases hG:(k:Int)∈tkG m P
   ·rw [if_pos hG,if_pos (.inr hG)];rfl
   ·rw [if_neg hG];by_cases hk2:k<2
    ·rw [if_pos (.inl hk2),h1.2 (.inl hk2)];rfl
    ·rw [if_neg (by rintro (e|e);exact hk2 e;exact hG e)]
     have h4:P.getD k 0≠1:=fun e=>by
      rcases h1.1 e with e|e
      ·exact hk2 e
      ·exact hC e
     unfold trZ;rw [if_neg h2];split
     ·rfl
     ·omega
 refine ⟨⟨by rw [JR,hl],FV (gvA_ok C (tkS_ok h.ok m)) (by decide) (by decide),fun k hk=>?_,fun k hk=>?_,p1,p2⟩,fun k hk=>?_⟩
 ·rw [hat k hk];split
  ·next e=>exact ⟨fun _=>e,fun _=>rfl⟩
  ·next e=>exact ⟨fun x=>(by cases x),fun x=>absurd x e⟩
 ·rw [hat k hk];split<;>decide
 ·rw [hat k hk];split
  ·exact .inr rfl
  ·exact .inl rfl
theorem PInv.doubt (h:PInv n P C) (hm:m<=P.count 0):PInv n (gvA (trS 1 3 (tkS m P)) (tkG m P)) C/\(gvA (trS 1 3 (tkS m P)) (tkG m P)).count 0+m=P.count 0/\
  (∀k,k<n->(P.getD k 0=1\/P.getD k 0=3)->((gvA (trS 1 3 (tkS m P)) (tkG m P)).getD k 0=1\/(gvA (trS 1 3 (tkS m P)) (tkG m P)).getD k 0=3))/\∀k,k<n->(k:Int)∈tkG m P->(gvA (trS 1 3 (tkS m P)) (tkG m P)).getD k 0=3:=by
 obtain ⟨_,h2⟩:=tk_at m hm;obtain ⟨p1,p2,p3⟩:=h.pg hm;have hlen:=h.len
 have ht:∀k,k<n->(trS 1 3 (tkS m P)).getD k 0=if (k:Int)∈tkG m P then 1 else P.getD k 0:=fun k hk=>by
  rw [trS_at (by rw [JF];omega),h2 k (by omega)];have h5:=h.two k hk;split
  ·rfl
  ·unfold trZ;rw [if_neg h5];split
   ·next e=>exact e.symm
   ·rfl
 have hat:∀k,k<n->(gvA (trS 1 3 (tkS m P)) (tkG m P)).getD k 0=if (k:Int)∈tkG m P then 3 else P.getD k 0:=fun k hk=>by
  rw [gvA_at (tkG m P) (fun z hz=>by
   have h3:=yW p1 z hz;have h4:=p2 z hz;refine ⟨h3.1,by rw [JR,JF];omega,?_⟩;rw [ht _ (by omega),if_pos (by rw [qF (by omega)];exact hz)]) (YO p1),ht k hk]
  split<;>rfl
 have hl:(gvA (trS 1 3 (tkS m P)) (tkG m P)).length=n:=by rw [UU,JR,JF,hlen]
 refine ⟨⟨hl,gvA_ok _ (FV (tkS_ok h.ok m) (by decide) (by decide)),fun k hk=>?_,fun k hk=>?_,h.c,h.cn⟩,?_,fun k hk e=>?_,fun k hk e=>by rw [hat k hk,if_pos e]⟩
 ·rw [hat k hk];split
  ·next e=>
   constructor
   ·intro x;cases x
   ·rintro (x|x)
    ·have:=yW p1 _ e;omega
    ·exact absurd x (p3 _ e).1
  ·exact h.one k hk
 ·rw [hat k hk];split
  ·decide
  ·exact h.two k hk
 ·have h3:=tk_cnt m hm;rw [<-h3]
  congr 1
  have e1:∀{Z W:List Int},Z.length=W.length->(∀k,k<Z.length->(Z.getD k 0=0↔W.getD k 0=0))->Z.count 0=W.count 0:=by
   intro Z
   induction Z with
   |nil=>intro W hw _;cases W with
    |nil=>rfl
    |cons _ _=>cases hw
   |cons z Z ih=>
    intro W hw hk;cases W with
    |nil=>cases hw
    |cons y W=>
     have h0:z=0↔y=0:=by simpa using hk 0 (by simp)
     have:=ih (W:=W) (by simpa using hw) (fun k hk'=>by simpa using hk (k+1) (by simpa using hk'));rw [List.count_cons,List.count_cons,this];by_cases hz:z=0
     ·rw [hz,h0.1 hz]
     ·have hy:¬y=0:=fun e=>hz (h0.2 e)
      simp [hz,hy]
  refine e1 (by rw [hl,JF,hlen]) fun k hk=>?_
  rw [hl] at hk;rw [hat k hk,h2 k (by omega)];split
  ·simp
  ·exact Iff.rfl
 ·rw [hat k hk];split
  ·exact .inr rfl
  ·exact e
theorem PInv.bits (h:PInv n P C) (hm:m<=P.count 0) (a:Nat):bitL (gvA (tkS m P) C)=usedL (reaL n [] (natL ((tkG m P).take a)) (natL ((tkG m P).drop a))):=by
 have hb:=h.behind hm;obtain ⟨p1,p2,p3⟩:=h.pg hm;have hl:(gvA (tkS m P) C).length=n:=by rw [UU,JF,h.len]
 have hmem:∀{l:List Int} {k:Nat},(∀z∈l,0<=z)->(k∈natL l↔(k:Int)∈l):=fun {l k} hz=>by
  unfold natL;rw [List.mem_map];constructor
  ·rintro ⟨z,hz',rfl⟩;rw [qF (hz z hz')];exact hz'
  ·intro h;exact ⟨_,h,jS k⟩
 have hnn:∀z∈tkG m P,(0:Int)<=z:=fun z hz=>by have:=yW p1 z hz;omega
 unfold bitL usedL;rw [VW,hl];refine zG fun i _=>?_
 by_cases hi:i<n
 ·rw [hb i hi,uB hi]
  have hA:(decide (i∈natL ((tkG m P).take a))||decide (i∈natL ((tkG m P).drop a)))=decide ((i:Int)∈tkG m P):=by
   rw [yE];simp only [Bool.or_eq_true,jR];rw [hmem (fun z hz=>hnn z (jU hz)),hmem (fun z hz=>hnn z (jV hz))]
   conv=>rhs;rw [<-xE a (tkG m P)]
   rw [qV]
  rw [hA];have h1:=h.one i hi;have h2:=h.two i hi;by_cases hC:(i:Int)∈C
  ·have:=yW h.c _ hC;rw [if_pos hC,jH (by omega:¬i<2),jH (fun e=>(p3 _ e).1 hC)];rfl
  ·rw [if_neg hC];by_cases hG:(i:Int)∈tkG m P
   ·rw [if_pos hG,jE hG];simp [usB]
   ·rw [if_neg hG,jH hG];by_cases hi2:i<2
    ·rw [h1.2 (.inl hi2),jE hi2];rfl
    ·rw [jH hi2]
     have h4:P.getD i 0≠1:=fun e=>by
      rcases h1.1 e with e|e
      ·exact hi2 e
      ·exact hC e
     show (P.getD i 0==1||P.getD i 0==2)=(false||false);rw [beq_false_of_ne h4,beq_false_of_ne h2]
 ·have h3:(gvA (tkS m P) C).getD i 0=0:=by rw [jA,qD (by omega)];rfl
  have h4:(reaL n [] (natL ((tkG m P).take a)) (natL ((tkG m P).drop a))).getD i false=false:=by rw [jA,qD (by rw [VW];omega)];rfl
  rw [h3,h4];by_cases hi2:i<2
  ·have:=h.ok.lo;have:=h.len;omega
  ·rw [jH hi2];rfl
theorem PInv.free (h:PInv n P C) (hc:∀k,k<n->P.getD k 0=0\/P.getD k 0=1):P.count 0+2+C.length=n:=by
 have hlen:=h.len;have h8:=h.ok.lo
 have e1:P=(List.range n).map (fun k=>P.getD k 0):=by
  refine List.ext_getElem (by simp [hlen]) fun i h1 h2=>?_
  rw [List.getElem_map,List.getElem_range,jA,jC h1];rfl
 have e2:P.count 0=(List.range n).countP (fun k=>P.getD k 0==0):=by
  conv=>lhs;rw [e1]
  rw [List.count_eq_countP,List.countP_map];rfl
 have e3:((List.range n).filter (fun k=>!(P.getD k 0==0))).Perm ([0,1]++natL C):=by
  have hnd:(natL C).Nodup:=by
   unfold natL;have:=YO h.c;rw [xU] at this ⊢;rw [List.pairwise_map];refine List.Pairwise.imp_of_mem ?_ this;intro a b ha hb hab e;have h1:=yW h.c a ha;have h2:=yW h.c b hb;exact hab (by omega)
  refine (List.perm_ext_iff_of_nodup (List.nodup_range.filter _) ?_).2 fun k=>?_
  ·refine List.nodup_append.2 ⟨by decide,hnd,fun a ha b hb e=>?_⟩;unfold natL at hb;obtain ⟨z,hz,rfl⟩:=List.mem_map.1 hb;have:=yW h.c z hz;simp at ha;omega
  ·rw [List.mem_filter,List.mem_range,qV];unfold natL;rw [List.mem_map];constructor
   ·rintro ⟨hk,h1⟩
    have h2:P.getD k 0=1:=by
     rcases hc k hk with e|e
     ·rw [e] at h1;cases h1
     ·exact e
    rcases (h.one k hk).1 h2 with e|e
    ·left;simp;omega
    ·exact .inr ⟨_,e,jS k⟩
   ·rintro (h1|⟨z,hz,rfl⟩)
    ·have hk:k<2:=by simp at h1;omega
     exact ⟨by omega,by rw [(h.one k (by omega)).2 (.inl hk)];rfl⟩
    ·have h1:=yW h.c z hz;have h2:=h.cn z hz;exact ⟨by omega,by rw [(h.one z.toNat (by omega)).2 (.inr (by rw [qF (by omega)];exact hz))];rfl⟩
 have e4:=e3.length_eq;have e5:=List.length_eq_countP_add_countP (fun k=>P.getD k 0==0) (l:=List.range n);rw [List.length_range,<-e2] at e5;rw [<-List.countP_eq_length_filter] at e4
 have e6:List.countP (fun k=>!(P.getD k 0==0)) (List.range n)=List.countP (fun a=>decide (¬(P.getD a 0==0)=true)) (List.range n):=by
  congr 1
  funext a
  cases (P.getD a 0==0)<;>rfl
 have e7:(natL C).length=C.length:=by unfold natL;rw [qU]
 rw [e6,jN,e7] at e4;have e8:([0,1]:List Nat).length=2:=rfl;omega
end
theorem rea_len {n:Nat} {A F:List Int} (h:CtOk (A++F)) (hn:∀z∈A++F,z<(n:Int)):(rsB (reaL n [] (natL A) (natL F)) n).length=A.length+F.length:=by
 have key:∀(R:List Bool) k,rsB R k=((List.range k).filter (fun i=>R.getD i false)).map (fun i:Nat=>(i:Int)):=by
  intro R k
  induction k with
  |zero=>rfl
  |succ k ih=>
   rw [rsB,List.range_succ,List.filter_append,qI,ih];by_cases e:R.getD k false=true
   ·rw [if_pos e,List.filter_cons_of_pos (p:=fun i=>R.getD i false) (a:=k) (l:=[]) e];rfl
   ·rw [if_neg e,List.filter_cons_of_neg (p:=fun i=>R.getD i false) (a:=k) (l:=[]) e];simp
 rw [key,qU]
 have e3:((List.range n).filter (fun i=>(reaL n [] (natL A) (natL F)).getD i false)).Perm (natL (A++F)):=by
  have hnd:(natL (A++F)).Nodup:=by
   unfold natL;have:=YO h;rw [xU] at this ⊢;rw [List.pairwise_map];refine List.Pairwise.imp_of_mem ?_ this;intro a b ha hb hab e;have h1:=yW h a ha;have h2:=yW h b hb;exact hab (by omega)
  refine (List.perm_ext_iff_of_nodup (List.nodup_range.filter _) hnd).2 fun k=>?_
  rw [List.mem_filter,List.mem_range];have hap:natL (A++F)=natL A++natL F:=by simp [natL]
  constructor
  ·rintro ⟨hk,h1⟩;rw [uB hk] at h1;rw [hap,qV]
   simpa using h1
  ·intro h1
   have hk:k<n:=by
    unfold natL at h1;obtain ⟨z,hz,rfl⟩:=List.mem_map.1 h1;have:=yW h z hz;have:=hn z hz;omega
   refine ⟨hk,?_⟩;rw [uB hk];rw [hap,qV] at h1
   simpa using h1
 rw [e3.length_eq];simp [natL]
theorem Jv.add {D:Dv} {S:Sp} {pl:Nat} {r:Rp} {T:List (Sp × Rp)} (h:Jv D S pl r T) {S1:Sp} {r1:Rp} (ho:okS S1=true) (hg:S.g<S1.g) (hs:Su D.sure S1 r1) (hn:∀x∈D.since,¬(x.1:Int)∈r1.pg):Jv D S pl r ((S1,r1)::T):=by
 refine ⟨h.ok,h.now,h.p2,h.sp,h.su,h.at_,h.nop,h.nor,?_,fun x hx e=>?_,fun y hy=>?_⟩
 ·refine ⟨h.oth.1,?_⟩;rcases h.oth.2 with a|a|⟨y,hy,e⟩
  ·exact .inl a
  ·exact .inr (.inl a)
  ·exact .inr (.inr ⟨y,jM _ hy,e⟩)
 ·obtain ⟨y,hy,e⟩:=h.ots x hx e;exact ⟨y,jM _ hy,e⟩
 ·rcases List.mem_cons.1 hy with rfl|hy
  ·exact ⟨ho,hg,hs,hn⟩
  ·exact h.trd y hy
theorem Jv.writeS {D:Dv} {S:Sp} {pl:Nat} {r:Rp} {T:List (Sp × Rp)} (h:Jv D S pl r T) {S1:Sp} {r1:Rp} (ho:okS S1=true) (hg:S.g<S1.g) (hs:Su D.sure S1 r1) (hn:∀x∈D.since,¬(x.1:Int)∈r1.pg) (h2:∀z∈r1.pg,2<=z)
  (h2r:∀z∈r.pg,2<=z) (h2t:∀y∈T,∀z∈y.2.pg,2<=z):Jv (Oct.writeD D (1-pl) (enZ S1)) S pl r ((S1,r1)::T):=by
 unfold Oct.writeD;split
 ·exact h.add ho hg hs hn
 ·split
  ·exact h.dieD.wrS ho hg hs hn h2 h2r h2t
  ·split
   ·exact h.opD.add ho hg hs hn
   ·exact h.opD.wrS ho hg hs hn h2 h2r h2t
theorem gG {n:Nat} {A F:List Int} (h:CtOk (A++F)):∀z∈rsB (reaL n [] (natL A) (natL F)) n,(2<=z/\z<(n:Int))/\z∈A++F:=fun z hz=>by
 obtain ⟨k,rfl,hk⟩:=rsB_all n z hz;have h1:=((rsB_mem k n).1 hz).2;rw [uB hk] at h1
 have hm:(k:Int)∈A++F:=by
  have key:∀{l:List Int},(∀z∈l,2<=z/\z<4096)->k∈natL l->(k:Int)∈l:=fun {l} hl hk=>by
   unfold natL at hk;obtain ⟨y,hy,e⟩:=List.mem_map.1 hk;have:=hl y hy;have e2:(k:Int)=y:=by omega
   rw [e2];exact hy
  simp at h1;rw [qV];rcases h1 with h1|h1
  ·exact .inl (key (fun z hz=>yW h z (qM _ hz)) h1)
  ·exact .inr (key (fun z hz=>yW h z (qL _ hz)) h1)
 have:=yW h _ hm;exact ⟨by omega,hm⟩
def sup (g n a f:Int):Sp:=⟨g,n,0,0,0,0,a,f⟩
theorem FY {g n a f:Int} (hg:1<=g) (hg2:g<=1000000000) (h8:8<=n) (h4:n<=4096) (ha:a=0\/2<=a/\a<n) (hf:f=0\/2<=f/\f<n):okS (sup g n a f)=true:=by
 unfold okS fitS ldB sup;simp only [jO,jR];refine ⟨⟨⟨⟨⟨⟨⟨⟨hg,by omega⟩,by omega⟩,.inl trivial⟩,by decide⟩,by decide⟩,by decide⟩,by omega⟩,by omega⟩
def rpA (n:Nat) (S:Sp) (st A F:List Int):Rp:=⟨S,-1,[],[],st,rsB (reaL n [] (natL A) (natL F)) n,0⟩
theorem ct_take {pg:List Int} (h:CtOk pg) (a:Nat):CtOk (pg.take a):=fun i hi=>by
 rw [qG] at hi
 have hg:∀j,j<a->j<pg.length->(pg.take a).getD j 0=pg.getD j 0:=fun j hj hl=>by
  rw [jA,List.getElem?_take_of_lt hj,<-jA]
 obtain ⟨h1,h2⟩:=h i (by omega);rw [hg i (by omega) (by omega)];exact ⟨h1,fun k hk=>by rw [hg k (by omega) (by omega)];exact h2 k hk⟩
theorem ct_drop {pg:List Int} (h:CtOk pg) (a:Nat):CtOk (pg.drop a):=fun i hi=>by
 rw [qC] at hi
 have hg:∀j,(pg.drop a).getD j 0=pg.getD (a+j) 0:=fun j=>by
  rw [jA,qO,<-jA]
 obtain ⟨h1,h2⟩:=h (a+i) (by omega);rw [hg];exact ⟨h1,fun k hk=>by rw [hg];exact h2 (a+k) (by omega)⟩
theorem suOk0 {L:List Int} {S:Sp} (hr:S.r=0) (hb:S.b=0) (hl:S.l=0):SuOk L S tc0:=
 ⟨by unfold suT;rw [if_pos hr],List.nodup_nil,fun _ h=>(by cases h),fun _ h=>(by cases h),hb.symm,hl.symm⟩
theorem su_two {L:List Int} {n:Nat} (hn:pgN L=n) {st pg:List Int} {a:Nat} {g:Int} (hst:Bys st) (hpg:CtOk pg) (hpn:∀z∈pg,z<(n:Int)) (ha:a=ned st.length) (hl:pg.length=a+ned ((n+7)/8))
  (hAc:ChAt L st (pg.take a)) (hFc:ChAt L (usedL (reaL n [] (natL (pg.take a)) (natL (pg.drop a)))) (pg.drop a)):
  Su L (sup g n (hd0 (pg.take a)) (hd0 (pg.drop a))) (rpA n (sup g n (hd0 (pg.take a)) (hd0 (pg.drop a))) st (pg.take a) (pg.drop a)):=by
 have hnd:=YO hpg;rw [<-xE a pg,List.nodup_append] at hnd
 have lt:∀{l:List Int},(∀z∈l,z<(n:Int))->∀i,i<l.length->l.getD i 0<(pgN L:Int):=fun {l} h i hi=>by
  rw [hn,jA,jC hi];exact h _ (qB _)
 have hFT:∀k∈natL (pg.drop a),¬k∈tc0.tp++pgs tc0.pc/\¬k∈natL (pg.take a):=fun k hk=>by
  refine ⟨fun h=>(by cases h),fun h=>?_⟩;unfold natL at hk h;obtain ⟨y,hy,ey⟩:=List.mem_map.1 hk;obtain ⟨z,hz,ez⟩:=List.mem_map.1 h;have h1:=yW hpg y (jV hy);have h2:=yW hpg z (jU hz);exact hnd.2.2 z hz y hy (by omega)
 have:=su_make (L:=L) (S:=sup g n (hd0 (pg.take a)) (hd0 (pg.drop a))) (T:=tc0) (st:=st) (A:=pg.take a) (F:=pg.drop a) (by rw [hn];rfl) (suOk0 rfl rfl rfl) hst
  (ct_take hpg a) (by rw [qG];omega) (lt (fun z hz=>hpn z (jU hz))) hAc rfl
  (ct_drop hpg a) (by rw [qC,hn];omega) (lt (fun z hz=>hpn z (jV hz))) rfl
  (fun k _ h=>by cases h) hFT (by rw [hn];exact hFc)
 rw [hn] at this;exact this
structure In (D:Dv) (N:Nat) (L:List Fr) (P:List Int) (S:Sp) (pl:Nat) (C:List Int) (g:Int) (r:Rp) (T:List (Sp × Rp)):Prop where
 jv:Jv D S pl r T
 fi:FI D N L
 nd:∀k,¬DP L k
 pi:PInv D.n P C
 rc:∀z∈r.pg,z∈C
 tc:∀y∈T,∀z∈y.2.pg,2<=z/\z<(D.n:Int)/\(P.getD z.toNat 0=1\/P.getD z.toNat 0=3)
 gs:S.g<=g
 gt:∀y∈T,y.1.g<=g
 sp:S.p=D.n
theorem In.apart {D:Dv} {N:Nat} {L:List Fr} {P:List Int} {S:Sp} {pl:Nat} {C:List Int} {g:Int} {r:Rp} {T:List (Sp × Rp)} (h:In D N L P S pl C g r T) {m:Nat} (hm:m<=P.count 0):∀k:Nat,(k:Int)∈tkG m P->Apart r T k:=fun k hk=>by
 obtain ⟨p1,p2,p3⟩:=h.pi.pg hm;have h2:=yW p1 _ hk;obtain ⟨p4,p5⟩:=p3 _ hk;refine ⟨by omega,fun hz=>p4 (h.rc _ hz),fun y hy hz=>?_⟩;have:=(h.tc y hy _ hz).2.2;rw [p5] at this;rcases this with e|e<;>cases e
theorem In.acts {D E:Dv} {N:Nat} {L M:List Fr} {P:List Int} {S:Sp} {pl:Nat} {C:List Int} {g:Int} {r:Rp} {T:List (Sp × Rp)} (h:In D N L P S pl C g r T) {m:Nat} (hm:m<=P.count 0) {c:Nat} (a:Acts (fun k=>(k:Int)∈tkG m P) c D E) (f:FI E N M) (nd:∀k,¬DP M k):In E N M P S pl C g r T:=by
 have hn:=a.n;exact ⟨a.jv h.jv (fun k hk=>h.apart hm k hk),f,nd,by rw [hn];exact h.pi,h.rc,fun y hy z hz=>by rw [hn];exact h.tc y hy z hz,h.gs,h.gt,by rw [hn];exact h.sp⟩
theorem In.sync {D:Dv} {N:Nat} {L:List Fr} {P:List Int} {S:Sp} {pl:Nat} {C:List Int} {g:Int} {r:Rp} {T:List (Sp × Rp)} (h:In D N L P S pl C g r T):In (syncD D) N L P S pl C g r T:=by
 have hn:=vF D;exact ⟨h.jv.syncD,h.fi.sync,h.nd,by rw [hn];exact h.pi,h.rc,fun y hy z hz=>by rw [hn];exact h.tc y hy z hz,h.gs,h.gt,by rw [hn];exact h.sp⟩
theorem In.frames {D:Dv} {N:Nat} {L M:List Fr} {P:List Int} {S:Sp} {pl:Nat} {C:List Int} {g:Int} {r:Rp} {T:List (Sp × Rp)} (h:In D N L P S pl C g r T) (f:FI D N M) (nd:∀k,¬DP M k):In D N M P S pl C g r T:={h with fi:=f,nd:=nd}
theorem In.super {D:Dv} {N:Nat} {L:List Fr} {P:List Int} {S:Sp} {pl:Nat} {C:List Int} {g:Int} {r:Rp} {T:List (Sp × Rp)} (h:In D N L P S pl C g r T) {m:Nat} (hm:m<=P.count 0) (hg:g+1<=1000000000) (hd:D.since=[]) {st:List Int} (hst:Bys st) {a:Nat} (ha:a=ned st.length) (hl:m=a+ned ((D.n+7)/8))
  (hAc:ChAt D.sure st ((tkG m P).take a)) (hFc:ChAt D.sure (bitL (gvA (tkS m P) C)) ((tkG m P).drop a)) (hne:∀f∈L,f.page≠1-pl)
  {S1:Sp} (hS:S1=sup (g+1) D.n (hd0 ((tkG m P).take a)) (hd0 ((tkG m P).drop a))):
  okS S1=true/\In (writeD D (1-pl) (enZ S1)) N L (gvA (trS 1 3 (tkS m P)) (tkG m P)) S pl C (g+1) r ((S1,rpA D.n S1 st ((tkG m P).take a) ((tkG m P).drop a))::T):=by
 obtain ⟨p1,p2,p3⟩:=h.pi.pg hm;obtain ⟨q1,q2,q3,q4⟩:=h.pi.doubt hm;have hgl:=zA m P;have ok:=h.jv.ok;have hsure:=ok.sure;have h8:=ok.n8;have h4:=ok.n4;have hp2:=h.jv.p2;have hpn:pgN D.sure=D.n:=by unfold pgN;omega
 have hap:(tkG m P).take a++(tkG m P).drop a=tkG m P:=xE ..
 have hdz:∀l:List Int,(∀z∈l,z∈tkG m P)->hd0 l=0\/2<=hd0 l/\hd0 l<(D.n:Int):=fun l hl=>by
  unfold hd0;cases l with
  |nil=>exact .inl rfl
  |cons z l=>
   have h1:=hl z (by simp);have h2:=yW p1 z h1;have h3:=p2 z h1;exact .inr ⟨h2.1,h3⟩
 have hg1:1<=g+1:=by
  have:=h.gs;have:=(ZI h.jv.sp).1;omega
 have hok:okS S1=true:=by
  rw [hS];exact FY hg1 hg (by omega) (by omega) (hdz _ (fun z hz=>jU hz)) (hdz _ (fun z hz=>jV hz))
 have hsu:Su D.sure S1 (rpA D.n S1 st ((tkG m P).take a) ((tkG m P).drop a)):=by
  rw [hS];exact su_two hpn hst p1 p2 ha (by rw [hgl];exact hl) hAc (by rw [<-h.pi.bits hm a];exact hFc)
 have hr2:∀z∈(rpA D.n S1 st ((tkG m P).take a) ((tkG m P).drop a)).pg,(2<=z/\z<(D.n:Int))/\z∈tkG m P:=fun z hz=>by
  have:=gG (n:=D.n) (A:=(tkG m P).take a) (F:=(tkG m P).drop a) (by rw [hap];exact p1) z hz;rw [hap] at this;exact this
 have hgS:S.g<S1.g:=by
  rw [hS];have:=h.gs;show S.g<g+1;omega
 have hw:=h.jv.writeS hok hgS hsu (fun x hx=>by rw [hd] at hx;cases hx) (fun z hz=>(hr2 z hz).1.1) (fun z hz=>(yW h.pi.c z (h.rc z hz)).1) (fun y hy z hz=>(h.tc y hy z hz).1);have hn:(writeD D (1-pl) (enZ S1)).n=D.n:=zO ..;refine ⟨hok,hw,(h.fi.past (x:=1-pl) (by omega) hne (vZ hok).1 (ZB S1)).1,h.nd,by rw [hn];exact q1,h.rc,fun y hy z hz=>?_,by have:=h.gs;omega,fun y hy=>?_,by rw [hn];exact h.sp⟩
 ·rw [hn];rcases List.mem_cons.1 hy with rfl|hy
  ·obtain ⟨⟨a1,a2⟩,a3⟩:=hr2 z hz;refine ⟨a1,a2,.inr ?_⟩;exact q4 z.toNat (by omega) (by rw [qF (by omega)];exact a3)
  ·obtain ⟨a1,a2,a3⟩:=h.tc y hy z hz;exact ⟨a1,a2,q3 z.toNat (by omega) a3⟩
 ·rcases List.mem_cons.1 hy with rfl|hy
  ·rw [hS];exact Int.le_refl _
  ·have:=h.gt y hy;omega
theorem In.turn {D:Dv} {N:Nat} {L:List Fr} {P:List Int} {S:Sp} {pl:Nat} {C:List Int} {g:Int} {r:Rp} {T:List (Sp × Rp)} (h:In D N L P S pl C g r T) {m:Nat} (hm:m<=P.count 0) (hg:g+1<=1000000000) (hd:D.since=[]) {st:List Int} (hst:Bys st) {a:Nat} (ha:a=ned st.length) (hl:m=a+ned ((D.n+7)/8))
  (hAc:ChAt D.sure st ((tkG m P).take a)) (hFc:ChAt D.sure (bitL (gvA (tkS m P) C)) ((tkG m P).drop a)) (hne:∀f∈L,f.page≠1-pl)
  {S1:Sp} (hS:S1=sup (g+1) D.n (hd0 ((tkG m P).take a)) (hd0 ((tkG m P).drop a))) (h1:saysD D=0) (h2:saysD (writeD D (1-pl) (enZ S1))=0):
  In (syncD (writeD D (1-pl) (enZ S1))) N L (trS 1 0 (gvA (tkS m P) C)) S1 (1-pl) (tkG m P) (g+1) (rpA D.n S1 st ((tkG m P).take a) ((tkG m P).drop a)) []:=by
 obtain ⟨hok,hi⟩:=h.super hm hg hd hst ha hl hAc hFc hne hS;have hi2:=hi.sync;have ok:=h.jv.ok;have hn0:=ok.now;have h8:=ok.n8;have hp2:=h.jv.p2;have e1:=VN h1 (1-pl) (enZ S1);have e2:=vJ h2;have hap:(tkG m P).take a++(tkG m P).drop a=tkG m P:=xE ..;obtain ⟨p1,p2,p3⟩:=h.pi.pg hm
 have hq:pageOf (syncD (writeD D (1-pl) (enZ S1))).sure (1-pl)=enZ S1:=by
  rw [e2,e1];show pageOf (onto D.now (1-pl) (enZ S1) 15) (1-pl)=_;rw [QI (by omega) (by omega) (vZ hok).1,if_pos rfl]
 have hsi:(syncD (writeD D (1-pl) (enZ S1))).since=[]:=by rw [e2];rfl
 have hj:=hi2.jv.turn (y:=(S1,rpA D.n S1 st ((tkG m P).take a) ((tkG m P).drop a))) (yB ..) hq hsi;have hn:(syncD (writeD D (1-pl) (enZ S1))).n=D.n:=by rw [vF,zO]
 refine ⟨hj,hi2.fi,h.nd,by rw [hn];exact (h.pi.done hm).1,fun z hz=>?_,fun y hy=>(by cases hy),?_,fun y hy=>(by cases hy),?_⟩
 ·have:=(gG (n:=D.n) (A:=(tkG m P).take a) (F:=(tkG m P).drop a) (by rw [hap];exact p1) z hz).2;rw [hap] at this;exact this
 ·rw [hS];exact Int.le_refl _
 ·rw [hn,hS];rfl
end Go.Proofs.YtaijfhadecennaaGreat.Oct
