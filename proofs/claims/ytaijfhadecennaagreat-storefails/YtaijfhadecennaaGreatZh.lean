/- Part of a proof. -/
import Derived.Test.YtaijfhadecennaaGreatZc
import Derived.OwnWalk
import Derived.Deep.AppendLies
open Go.Proofs.Tryz
namespace Go.Proofs.YtaijfhadecennaaGreat.Oct
open Go.RowKit
def nums (n X:Nat):List Int:=putL (List.replicate n 0) 0 n X
theorem yS (n X:Nat):(nums n X).length=n:=by unfold nums;rw [uH,jK]
theorem zR (n X:Nat):Bys (nums n X):=putL_bys (fun z h=>by have:=List.eq_of_mem_replicate h;omega) _ _ _
theorem putL_at (zs:List Int) (p n X i:Nat) (hi:i<zs.length):(putL zs p n X).getD i 0=if p<=i/\i<p+n then dgt X p n i else zs.getD i 0:=by
 unfold putL;rw [kM _ _ _ _ hi];simp only [jR]
theorem dgt_off (X p n j:Nat):dgt X p n (p+j)=dgt X 0 n j:=by
 unfold dgt;rw [show p+n-1-(p+j)=0+n-1-j by omega]
theorem gW (n X j:Nat) (hj:j<n):(nums n X).getD j 0=dgt X 0 n j:=by
 unfold nums;rw [putL_at _ _ _ _ _ (by rw [jK];exact hj),if_pos (by omega)]
theorem putL_mid (A Z B:List Int) (X:Nat):putL (A++(Z++B)) A.length Z.length X=A++(nums Z.length X++B):=by
 refine ZZ ?_ fun i hi=>?_
 ·rw [uH];simp [yS]
 ·rw [uH] at hi;rw [putL_at _ _ _ _ _ hi,QM,QM,QM,QM,yS];by_cases h1:i<A.length
  ·rw [if_neg (by omega),if_pos h1,if_pos h1]
  ·rw [if_neg h1];by_cases h2:i-A.length<Z.length
   ·rw [if_pos (by omega),if_neg h1,if_pos h2,gW _ _ _ h2];have:=dgt_off X A.length Z.length (i-A.length);rw [show A.length+(i-A.length)=i by omega] at this;exact this
   ·rw [if_neg (by omega),if_neg h2,if_neg h1,if_neg h2]
theorem num_mid (A Z B:List Int) (k:Nat) (hk:k<=Z.length):num (A++(Z++B)) A.length k=num Z 0 k:=by
 induction k with
 |zero=>rfl
 |succ k ih=>
  rw [XK,XK,ih (by omega),QM,if_neg (by omega),QM,if_pos (by omega)];rw [show A.length+k-A.length=0+k by omega]
theorem num_nums (n X:Nat) (h:X<256^n):num (nums n X) 0 n=(X:Int):=num_put _ 0 n X (by rw [jK];omega) h
theorem dgt_num {zs:List Int} (h:Bys zs) (p:Nat):∀n j,j<n->dgt (num zs p n).toNat 0 n j=zs.getD (p+j) 0:=by
 intro n
 induction n with
 |zero=>intro j hj;omega
 |succ n ih=>
  intro j hj;have hb:=ZJ h p n;have hz:=h.at (p+n);have e:(num zs p (n+1)).toNat=(num zs p n).toNat*256+(zs.getD (p+n) 0).toNat:=by rw [XK];omega
  rw [e];by_cases hjn:j=n
  ·subst hjn;unfold dgt;rw [show 0+(j+1)-1-j=0 by omega];simp only [Nat.pow_zero,Nat.div_one];omega
  ·rw [<-ih j (by omega)];unfold dgt
   have e3:((num zs p n).toNat*256+(zs.getD (p+n) 0).toNat)/256^((0+n-1-j)+1)=(num zs p n).toNat/256^(0+n-1-j):=by
    rw [Nat.pow_succ',<-Nat.div_div_eq_div_mul]
    congr 1
    omega
   rw [show 0+(n+1)-1-j=(0+n-1-j)+1 by omega,e3]
theorem uN {zs:List Int} (h:Bys zs):nums zs.length (num zs 0 zs.length).toNat=zs:=by
 refine ZZ (yS _ _) fun i hi=>?_
 rw [yS] at hi;rw [gW _ _ _ hi,dgt_num h 0 _ _ hi,qT]
def tailP (p:Pg):List Int:=nums 1 p.kind.toNat++nums 1 p.level.toNat++nums 2 p.count.toNat++p.body++List.replicate (248-p.body.length) 0
def sealL (p:Pg):List Int:=nums 4 (crc (tailP p)).toNat++tailP p
def argP (p:Pg):Bool:=decide ((1<=p.kind/\p.kind<=5)/\(0<=p.level/\p.level<=255)/\(0<=p.count/\p.count<=65535))
def sealE (p:Pg):Int:=if argP p=true then (if p.body.length<=248 then 0 else 3) else 1
def sealZ (p:Pg):List Int:=if sealE p=0 then sealL p else []
theorem VH {p:Pg} (h:Bys p.body):Bys (tailP p):=(((zR _ _).app (zR _ _)).app (zR _ _)).app h |>.app (XC _)
theorem tail_len {p:Pg} (h:p.body.length<=248):(tailP p).length=252:=by simp [tailP,yS];omega
theorem ZY {p:Pg} (h:Bys p.body):Bys (sealL p):=(zR _ _).app (VH h)
theorem ZX {p:Pg} (h:p.body.length<=248):(sealL p).length=256:=by simp [sealL,yS,tail_len h]
theorem argP_out {p:Pg} (h:argP p=true):(1<=p.kind/\p.kind<=5)/\(0<=p.level/\p.level<=255)/\(0<=p.count/\p.count<=65535):=jZ h
theorem argP_no {p:Pg} (h:¬((1<=p.kind/\p.kind<=5)/\(0<=p.level/\p.level<=255)/\(0<=p.count/\p.count<=65535))):¬argP p=true:=fun e=>h (argP_out e)
theorem sealE_zero {p:Pg} (h:sealE p=0):argP p=true/\p.body.length<=248:=by
 unfold sealE at h;by_cases ha:argP p=true
 ·rw [if_pos ha] at h;by_cases hl:p.body.length<=248
  ·exact ⟨ha,hl⟩
  ·rw [if_neg hl] at h;omega
 ·rw [if_neg ha] at h;omega
theorem YX {len p n:Nat} (h1:1<=n) (h8:n<=8) (h:p+n<=len):insB len p n=true:=by simp [insB];omega
theorem fit1 (x:Int):fitB 1 x=decide (0<=x/\x<=255):=by
 unfold fitB;rw [yE];simp only [jR,show (1:Int).toNat=1 from rfl,Int.pow_succ,Int.pow_zero];omega
theorem fit2 (x:Int):fitB 2 x=decide (0<=x/\x<=65535):=by
 unfold fitB;rw [yE];simp only [jR,show (2:Int).toNat=2 from rfl,Int.pow_succ,Int.pow_zero];omega
theorem fit4 (x:Int):fitB 4 x=decide (0<=x/\x<=4294967295):=by
 unfold fitB;rw [yE];simp only [jR,show (4:Int).toNat=4 from rfl,Int.pow_succ,Int.pow_zero];omega
theorem uG (A Z B:List Int) (p n x:Int) (hp:p=A.length) (hn:n=Z.length) (h1:1<=Z.length) (h8:Z.length<=8) (hf:fitB n x=true):
  putB (A++(Z++B)) p n x=true/\putR (A++(Z++B)) p n x=A++(nums Z.length x.toNat++B):=by
 have hB:putB (A++(Z++B)) p n x=true:=by
  unfold putB;rw [hf,Bool.and_true,hp,hn];exact YX h1 h8 (by simp)
 refine ⟨hB,?_⟩;unfold putR;rw [if_pos hB,hp,hn,jS,jS,putL_mid]
theorem st0_eq:st0=List.replicate 4 0++(List.replicate 1 0++List.replicate 251 0):=by
 unfold st0;rw [xI,xI]
theorem step1 {p:Pg} (h:1<=p.kind/\p.kind<=5):er p 0=0/\st1 p=List.replicate 4 0++(nums 1 p.kind.toNat++List.replicate 251 0):=by
 have hf:fitB 1 p.kind=true:=by rw [fit1];exact jE (by omega)
 obtain ⟨q1,q2⟩:=uG (List.replicate 4 0) (List.replicate 1 0) (List.replicate 251 0) 4 1 p.kind (by rw [jK];rfl) (by rw [jK];rfl) (by rw [jK];omega) (by rw [jK];omega) hf;rw [<-st0_eq] at q1 q2;refine ⟨?_,?_⟩
 ·rw [er0,q1,show okK p.kind=true from jE h];rfl
 ·unfold st1;rw [q2,jK]
theorem step2 {p:Pg} (h1:st1 p=List.replicate 4 0++(nums 1 p.kind.toNat++List.replicate 251 0)) (h:0<=p.level/\p.level<=255):
  er p 1=0/\st2 p=(List.replicate 4 0++nums 1 p.kind.toNat)++(nums 1 p.level.toNat++List.replicate 250 0):=by
 have hf:fitB 1 p.level=true:=by rw [fit1];exact jE (by omega)
 have e:st1 p=(List.replicate 4 0++nums 1 p.kind.toNat)++(List.replicate 1 0++List.replicate 250 0):=by
  rw [h1,jX,xI]
 have hl:(List.replicate 4 (0:Int)++nums 1 p.kind.toNat).length=5:=by simp [yS]
 obtain ⟨q1,q2⟩:=uG (List.replicate 4 0++nums 1 p.kind.toNat) (List.replicate 1 0) (List.replicate 250 0) 5 1 p.level (by rw [hl];rfl) (by rw [jK];rfl) (by rw [jK];omega) (by rw [jK];omega) hf;rw [<-e] at q1 q2;refine ⟨?_,?_⟩
 ·rw [er1,q1];rfl
 ·unfold st2;rw [q2,jK]
theorem step3 {p:Pg} (h2:st2 p=(List.replicate 4 0++nums 1 p.kind.toNat)++(nums 1 p.level.toNat++List.replicate 250 0)) (h:0<=p.count/\p.count<=65535):
  er p 2=0/\st3 p=((List.replicate 4 0++nums 1 p.kind.toNat)++nums 1 p.level.toNat)++(nums 2 p.count.toNat++List.replicate 248 0):=by
 have hf:fitB 2 p.count=true:=by rw [fit2];exact jE (by omega)
 have e:st2 p=((List.replicate 4 0++nums 1 p.kind.toNat)++nums 1 p.level.toNat)++(List.replicate 2 0++List.replicate 248 0):=by
  rw [h2,jX (_++_),xI]
 have hl:((List.replicate 4 (0:Int)++nums 1 p.kind.toNat)++nums 1 p.level.toNat).length=6:=by simp [yS]
 obtain ⟨q1,q2⟩:=uG ((List.replicate 4 0++nums 1 p.kind.toNat)++nums 1 p.level.toNat) (List.replicate 2 0) (List.replicate 248 0) 6 2 p.count (by rw [hl];rfl) (by rw [jK];rfl) (by rw [jK];omega) (by rw [jK];omega) hf;rw [<-e] at q1 q2;refine ⟨?_,?_⟩
 ·rw [er2,q1];rfl
 ·unfold st3;rw [q2,jK]
theorem step4 {p:Pg} (h3:st3 p=((List.replicate 4 0++nums 1 p.kind.toNat)++nums 1 p.level.toNat)++(nums 2 p.count.toNat++List.replicate 248 0)) (h:p.body.length<=248):
  er p 3=0/\st4 p=List.replicate 4 0++tailP p:=by
 refine ⟨by rw [er3,if_pos h],?_⟩;unfold st4 spl;have hl:(((List.replicate 4 (0:Int)++nums 1 p.kind.toNat)++nums 1 p.level.toNat)++nums 2 p.count.toNat).length=8:=by simp [yS]
 have e3:st3 p=(((List.replicate 4 (0:Int)++nums 1 p.kind.toNat)++nums 1 p.level.toNat)++nums 2 p.count.toNat)++List.replicate 248 0:=by rw [h3];simp only [jX]
 have et:List.replicate 4 0++tailP p=(((List.replicate 4 (0:Int)++nums 1 p.kind.toNat)++nums 1 p.level.toNat)++nums 2 p.count.toNat)++(p.body++List.replicate (248-p.body.length) 0):=by unfold tailP;simp only [jX]
 rw [e3,et];clear e3 et h3;obtain ⟨A,hA⟩:∃A,((List.replicate 4 (0:Int)++nums 1 p.kind.toNat)++nums 1 p.level.toNat)++nums 2 p.count.toNat=A:=⟨_,rfl⟩;rw [hA] at hl ⊢;rw [List.take_append,yL,hl,qR (by omega),qW (by omega),List.drop_replicate];simp
theorem step5 {p:Pg} (hb:Bys p.body) (h4:st4 p=List.replicate 4 0++tailP p):er p 4=0/\st5 p=sealL p:=by
 have hx:=KD (VH hb);have hf:fitB 4 (crc (tailP p))=true:=by rw [fit4];exact jE (by omega)
 have e:(st4 p).drop 4=tailP p:=by rw [h4,yL,jK];simp
 obtain ⟨q1,q2⟩:=uG [] (List.replicate 4 0) (tailP p) 0 4 (crc (tailP p)) rfl (by rw [jK];rfl) (by rw [jK];omega) (by rw [jK];omega) hf;rw [xN,<-h4] at q1 q2;refine ⟨?_,?_⟩
 ·rw [er4,e,q1];rfl
 ·unfold st5 sealL;rw [e,q2,jK,xN]
theorem e0_in {p:Pg} (h:er p 0=0):1<=p.kind/\p.kind<=5:=by
 rw [er0] at h;by_cases hk:okK p.kind=true
 ·exact jZ hk
 ·rw [Bool.eq_false_iff.2 hk,Bool.false_and] at h;exact absurd h (by decide)
theorem e1_in {p:Pg} (h:er p 1=0):0<=p.level/\p.level<=255:=by
 rw [er1] at h;by_cases hk:putB (st1 p) 5 1 p.level=true
 ·unfold putB at hk;rw [jO,fit1] at hk;exact jZ hk.2
 ·rw [if_neg hk] at h;exact absurd h (by decide)
theorem e2_in {p:Pg} (h:er p 2=0):0<=p.count/\p.count<=65535:=by
 rw [er2] at h;by_cases hk:putB (st2 p) 6 2 p.count=true
 ·unfold putB at hk;rw [jO,fit2] at hk;exact jZ hk.2
 ·rw [if_neg hk] at h;exact absurd h (by decide)
theorem e3_in {p:Pg} (h:er p 3=0):p.body.length<=248:=by
 rw [er3] at h;by_cases hk:p.body.length<=248
 ·exact hk
 ·rw [if_neg hk] at h;exact absurd h (by decide)
theorem er_one {p:Pg} {k:Nat} (hk:k=0\/k=1\/k=2\/k=4) (h:er p k≠0):er p k=1:=by
 rcases hk with rfl|rfl|rfl|rfl
 ·rw [er0] at h ⊢;split
  ·rename_i h';rw [if_pos h'] at h;exact absurd rfl h
  ·rfl
 ·rw [er1] at h ⊢;split
  ·rename_i h';rw [if_pos h'] at h;exact absurd rfl h
  ·rfl
 ·rw [er2] at h ⊢;split
  ·rename_i h';rw [if_pos h'] at h;exact absurd rfl h
  ·rfl
 ·rw [er4] at h ⊢;split
  ·rename_i h';rw [if_pos h'] at h;exact absurd rfl h
  ·rfl
theorem VM {p:Pg} (h:¬((1<=p.kind/\p.kind<=5)/\(0<=p.level/\p.level<=255)/\(0<=p.count/\p.count<=65535))):sealE p=1/\sealZ p=[]:=by
 have e:sealE p=1:=by unfold sealE;rw [if_neg (argP_no h)]
 exact ⟨e,by unfold sealZ;rw [e];rfl⟩
theorem seal_HA {p:Pg} (hb:Bys p.body):∀k,k<5->(∀j,j<k->er p j=0)->er p k≠0->sealE p=er p k/\sealZ p=[]:=by
 intro k hk hj he;have:k=0\/k=1\/k=2\/k=3\/k=4:=by omega
 rcases this with rfl|rfl|rfl|rfl|rfl
 ·rw [er_one (by omega) he];exact VM fun h=>he (step1 h.1).1
 ·have a0:=e0_in (hj 0 (by omega));rw [er_one (by omega) he];exact VM fun h=>he (step2 (step1 a0).2 h.2.1).1
 ·have a0:=e0_in (hj 0 (by omega));have a1:=e1_in (hj 1 (by omega));rw [er_one (by omega) he];exact VM fun h=>he (step3 (step2 (step1 a0).2 a1).2 h.2.2).1
 ·have a0:=e0_in (hj 0 (by omega));have a1:=e1_in (hj 1 (by omega));have a2:=e2_in (hj 2 (by omega));have hl:¬p.body.length<=248:=fun h=>he (by rw [er3,if_pos h])
  have e:sealE p=3:=by unfold sealE;rw [if_pos (show argP p=true from jE ⟨a0,a1,a2⟩),if_neg hl]
  exact ⟨by rw [e,er3,if_neg hl],by unfold sealZ;rw [e];rfl⟩
 ·have a0:=e0_in (hj 0 (by omega));have a1:=e1_in (hj 1 (by omega));have a2:=e2_in (hj 2 (by omega));have a3:=e3_in (hj 3 (by omega));exact absurd (step5 hb (step4 (step3 (step2 (step1 a0).2 a1).2 a2).2 a3).2).1 he
theorem seal_HZ {p:Pg} (hb:Bys p.body) (h:∀j,j<5->er p j=0):sealE p=0/\sealZ p=st p 5:=by
 have a0:=e0_in (h 0 (by omega));have a1:=e1_in (h 1 (by omega));have a2:=e2_in (h 2 (by omega));have a3:=e3_in (h 3 (by omega));have e:sealE p=0:=by unfold sealE;rw [if_pos (show argP p=true from jE ⟨a0,a1,a2⟩),if_pos a3]
 have e5:=(step5 hb (step4 (step3 (step2 (step1 a0).2 a1).2 a2).2 a3).2).2;refine ⟨e,?_⟩;unfold sealZ;rw [if_pos e];exact e5.symm
theorem seal_any (p:Pg) (ba:Option Addr) (bc:Nat) (w:World) (hr:Row w ba bc p.body) (h1:p.kind<=9223372036854775807) (h2:p.level<=9223372036854775807) (h3:p.count<=9223372036854775807):
  Calls prog 143 #[pgV p ba bc] w fun e w'=>∃v,e=.returned (.tuple #[v,.int .i64 (sealE p)])/\Own w.heap.size w' v (sealZ p)/\Below w.heap.size w w':=
 seal_walk p ba bc w hr _ _ h1 h2 h3 (seal_HA hr.1) (seal_HZ hr.1)
theorem sealZ_bys {p:Pg} (h:Bys p.body):Bys (sealZ p):=by
 unfold sealZ;split
 ·exact ZY h
 ·intro z hz;cases hz
theorem putR_nums {n:Nat} {x:Int} (h1:1<=n) (h8:n<=8) (hf:fitB n x=true):putR (List.replicate n 0) 0 n x=nums n x.toNat:=by
 have hB:putB (List.replicate n 0) 0 n x=true:=by
  unfold putB;rw [hf,Bool.and_true,jK];exact YX (p:=0) h1 h8 (by omega)
 unfold putR;rw [if_pos hB,jS];rfl
theorem get1 {zs:List Int} (hb:Bys zs) (k:Nat) (hk:k<zs.length):getI zs k 1=zs.getD k 0:=by
 have hi:insB zs.length k 1=true:=by simp [insB];omega
 have h:=hb.at k;unfold getI;rw [hi,if_pos rfl]
 have e:num zs (k:Int).toNat (1:Int).toNat=zs.getD k 0:=by
  rw [jS];show num zs k 1=_;rw [XK];show 0*256+_=_;simp
 rw [e];exact (QG (by omega)).1
set_option maxHeartbeats 1000000 in
theorem ropen_any (a:Option Addr) (cap:Nat) (zs:List Int) (w:World) (h:Row w a cap zs):
  Calls prog 197 #[.slice a zs.length cap] w fun e w'=>∃v,e=.returned (.tuple #[v,.int .i64 (opE zs)])/\Opened w.heap.size w' v (opP zs)/\Below w.heap.size w w':=by
 by_cases hl:zs.length=256
 ·obtain ⟨b,off,rfl⟩:=h.some' (by omega)
  have cn:∀(p n:Int) (w1:World),Below w.heap.size w w1->Calls prog 198 #[.slice (some ⟨b,off,none⟩) 256 cap,.int .i64 p,.int .i64 n] w1 fun e w'=>e=.returned (.int .i64 (getI zs p n))/\Below w1.heap.size w1 w':=fun p n w1 hb=>by
   have:=JQ _ _ _ p n _ (h.below hb);rw [hl] at this;exact this.mono fun e w' ⟨h1,h2⟩=>⟨h1,h2▸Below.refl _ _⟩
  have cs:∀(w1:World),Below w.heap.size w w1->Calls prog 233 #[.slice (some ⟨b,off+4,none⟩) 252 (cap-4)] w1 fun e w'=>e=.returned (.int .u32 (crc (zs.drop 4)))/\Below w1.heap.size w1 w':=fun w1 hb=>by
   have e:(zs.drop 4).length=252:=by simp [hl]
   have:=refcrc_any _ _ _ _ ((h.below hb).drop' 4 (by omega));rw [e] at this;exact this.mono fun e w' ⟨h1,h2⟩=>⟨h1,h2▸Below.refl _ _⟩
  have cc:∀(w1:World),Below w.heap.size w w1->Calls prog 234 #[.slice (some ⟨b,off+8,none⟩) 248 (cap-8)] w1 fun e w'=>∃g c,e=.returned (.slice g 248 c)/\Own w1.heap.size w' (.slice g 248 c) (zs.drop 8)/\Below w1.heap.size w1 w':=fun w1 hb=>by
   have e:(zs.drop 8).length=248:=by simp [hl]
   have hr:=(h.below hb).drop' 8 (by omega);have:=copy_any _ _ _ _ hr (by omega);rw [e] at this;refine this.mono ?_;rintro e' w' ⟨v,rfl,ho,hb'⟩;obtain ⟨g,c,hv,_⟩:=ho.row hr.1;rw [e] at hv;rw [hv] at ho ⊢;exact ⟨g,c,rfl,ho,hb'⟩
  have hc:=h.2.1;have hm:=h.2.2.1;unfold maxLen at hm;rw [hl] at hc;have e1:opE zs=if getI zs 0 4=crc (zs.drop 4) then (if okK (getI zs 4 1) then 0 else 4) else 5:=by simp [opE,hl]
  have hno:∀{base:Nat} {w:World},opE zs≠0->Opened base w (.agg #[.int .i64 0,.int .i64 0,.int .i64 0,.slice none 0 0]) (opP zs):=fun hh=>YU _ _ zs hh
  have hyes:opE zs=0->opP zs=⟨getI zs 4 1,getI zs 5 1,getI zs 6 2,zs.drop 8⟩:=fun hh=>by simp [opP,hh]
  have l4:∀(w1:World),Below w.heap.size w w1->w1.cell? ⟨b,off+4,none⟩=some (.int .u8 (getI zs 4 1)):=fun w1 hb=>by
   rw [show getI zs 4 1=zs.getD 4 0 from get1 h.1 4 (by omega)];exact (h.below hb).cells 4 (by omega)
  have l5:∀(w1:World),Below w.heap.size w w1->w1.cell? ⟨b,off+5,none⟩=some (.int .u8 (getI zs 5 1)):=fun w1 hb=>by
   rw [show getI zs 5 1=zs.getD 5 0 from get1 h.1 5 (by omega)];exact (h.below hb).cells 5 (by omega)
  have b4:0<=getI zs 4 1/\getI zs 4 1<=255:=by rw [show getI zs 4 1=zs.getD 4 0 from get1 h.1 4 (by omega)];exact h.1.at 4
  have b5:0<=getI zs 5 1/\getI zs 5 1<=255:=by rw [show getI zs 5 1=zs.getD 5 0 from get1 h.1 5 (by omega)];exact h.1.at 5
  have bs:=KD (zs:=zs.drop 4) (fun z hz=>h.1 z (jV hz));rw [hl];obtain ⟨E,hE⟩:∃E,opE zs=E:=⟨_,rfl⟩;obtain ⟨p,hp⟩:∃p,opP zs=p:=⟨_,rfl⟩;rw [hE,hp] at hno hyes;rw [hE] at e1 ⊢;rw [hp];obtain ⟨x0,h0⟩:∃x,getI zs 0 4=x:=⟨_,rfl⟩;obtain ⟨s0,hs0⟩:∃x,crc (zs.drop 4)=x:=⟨_,rfl⟩;obtain ⟨x4,h4⟩:∃x,getI zs 4 1=x:=⟨_,rfl⟩;obtain ⟨x5,h5⟩:∃x,getI zs 5 1=x:=⟨_,rfl⟩;obtain ⟨x6,h6⟩:∃x,getI zs 6 2=x:=⟨_,rfl⟩;have c0:=cn 0 4;have c6:=cn 6 2;rw [h0] at c0 e1;rw [h4] at e1 hyes l4 b4;rw [h5] at hyes l5 b5;rw [h6] at c6 hyes;rw [hs0] at cs e1 bs;have C0:Hid _:=c0;have L4:Hid _:=l4;have L5:Hid _:=l5;have C6:Hid _:=c6;have CS:Hid _:=cs;have CC:Hid _:=cc;have HE:Hid _:=e1;have HNO:Hid (∀{base:Nat} {w:World},E≠0->Opened base w (.agg #[.int .i64 0,.int .i64 0,.int .i64 0,.slice none 0 0]) p):= @hno;have HYES:Hid _:=hyes;clear c0 c6 cs cc cn h0 h4 h5 h6 hs0 e1 hno hyes hE hp h hl l4 l5;have HB0:Hid (Below w.heap.size w (w.alloc (.cells #[.int .i64 0,.int .i64 0,.int .i64 0,.slice none 0 0] 171))):=(Below.refl _ _).alloc (jB _) _;have S0:Hid (Slot (w.alloc (.cells #[.int .i64 0,.int .i64 0,.int .i64 0,.slice none 0 0] 171)) w.heap.size _ _ _ _):=YD w _ _ _ _ 171;have ws:IntKind.i64.wrap s0=s0:=wrap_i64 bs.1 bs.2;have w4:IntKind.i64.wrap x4=x4:=wrap_i64 b4.1 (by omega);have w5:IntKind.i64.wrap x5=x5:=wrap_i64 b5.1 (by omega);by_cases hs:x0=s0
  ·have hsb:(x0 !=s0)=false:=by simp [hs]
   have hsw:(x0 !=IntKind.i64.wrap s0)=false:=by rw [ws];exact hsb
   have HS:Hid (x0=s0):=hs;clear hs;cases hk:okK x4
   ·have he:E=4:=by rw [HE.out,if_pos HS.out,hk];rfl
    subst he;have hx:x4<1\/5<x4:=by simp [okK] at hk;omega
    clear hk;rcases hx with hx|hx
    all_goals
     go_enter func197,ntmps197
     go_wp2_with fail
     go_region_held3 (fun _=>True) (first|trivial|go_keep) (first
      |(go_at_call 198;refine (C0.out _ HB0.out.drew).mono ?_;rintro e w1 ⟨rfl,hb1⟩;have HB1:Hid (Below w.heap.size w w1):=HB0.out.drew.trans (hb1.mono HB0.out.size);have S1:Hid (Slot w1 w.heap.size _ _ _ _):=(S0.out.below (Below.refl _ _).drew).below hb1;clear hb1)
      |(go_at_call 233;refine (CS.out _ HB1.out).mono ?_;rintro e w2 ⟨rfl,hb2⟩;have HB2:Hid (Below w.heap.size w w2):=HB1.out.trans (hb2.mono HB1.out.size);have S2:Hid (Slot w2 w.heap.size _ _ _ _):=S1.out.below hb2;clear hb2))
     obtain ⟨⟨k0,k1,k2,k3⟩,f0,f1,f2,f3⟩:=S2.out;have k4:=L4.out _ HB2.out;go_wp2;clear k0 k1 k2 k3 f0 f1 f2 f3;obtain ⟨⟨q0,q1,q2,q3⟩,_⟩:=S2.out.wrote (.int .i64 0) (.int .i64 0) (.int .i64 0) (.slice none 0 0);refine bodyPost_ret (v:=.tuple #[.agg #[.int .i64 0,.int .i64 0,.int .i64 0,.slice none 0 0],.int .i64 4]) ?_ rfl ⟨_,rfl,HNO.out (by decide),zT HB2.out (jB _) _ _ _ _⟩;simp [results,Tryz.results197,go_sem,q0,q1,q2,q3]
   ·have he:E=0:=by rw [HE.out,if_pos HS.out,hk];rfl
    subst he;have hp:=HYES.out rfl;subst hp;have hx:1<=x4/\x4<=5:=by simpa [okK] using hk
    obtain ⟨hx1,hx2⟩:=hx;clear hk;go_enter func197,ntmps197
    go_wp2_with fail
    go_region_held3 (fun _=>True) (first|trivial|go_keep) (first
     |(go_at_call 198;refine (C0.out _ HB0.out.drew).mono ?_;rintro e w1 ⟨rfl,hb1⟩;have HB1:Hid (Below w.heap.size w w1):=HB0.out.drew.trans (hb1.mono HB0.out.size);have S1:Hid (Slot w1 w.heap.size _ _ _ _):=(S0.out.below (Below.refl _ _).drew).below hb1;clear hb1)
     |(go_at_call 233;refine (CS.out _ HB1.out).mono ?_;rintro e w2 ⟨rfl,hb2⟩;have HB2:Hid (Below w.heap.size w w2):=HB1.out.trans (hb2.mono HB1.out.size);have S2:Hid (Slot w2 w.heap.size _ _ _ _):=S1.out.below hb2;clear hb2))
    have k4:=L4.out _ HB2.out;have k5:=L5.out _ HB2.out;go_wp2
    go_region_held3 (fun w'=>w'.cell? ⟨b,off+4,none⟩=some (.int .u8 x4)/\w'.cell? ⟨b,off+5,none⟩=some (.int .u8 x5)) (first|exact ⟨L4.out _ HB2.out.drew,L5.out _ HB2.out.drew⟩|exact ⟨L4.out _ HB3.out,L5.out _ HB3.out⟩|exact ⟨L4.out _ HB4.out,L5.out _ HB4.out⟩|exact ⟨L4.out _ (zT HB4.out (jB _) _ _ _ _),L5.out _ (zT HB4.out (jB _) _ _ _ _)⟩|go_keep) (first
     |(go_at_call 198;refine (C6.out _ HB2.out.drew).mono ?_;rintro e w3 ⟨rfl,hb3⟩;have HB3:Hid (Below w.heap.size w w3):=HB2.out.drew.trans (hb3.mono HB2.out.size);have S3:Hid (Slot w3 w.heap.size _ _ _ _):=(S2.out.below (Below.refl _ _).drew).below hb3;clear hb3)
     |(go_at_call 234;refine (CC.out _ HB3.out).mono ?_;rintro e w4 ⟨g,c,rfl,ho,hb4⟩;have HB4:Hid (Below w.heap.size w w4):=HB3.out.trans (hb4.mono HB3.out.size);have S4:Hid (Slot w4 w.heap.size _ _ _ _):=S3.out.below hb4;have HO:Hid (Own w3.heap.size w4 (.slice g 248 c) (zs.drop 8)):=ho;have HS4:Hid (w.heap.size<w3.heap.size):=block_lt_of_cell S3.out.1.1;clear hb4 ho;obtain ⟨⟨k0,k1,k2,k3⟩,f0,f1,f2,f3⟩:=S4.out))
    go_wp2;clear k0 k1 k2 k3 f0 f1 f2 f3;obtain ⟨⟨q0,q1,q2,q3⟩,_⟩:=S4.out.wrote (.int .i64 x4) (.int .i64 x5) (.int .i64 x6) (.slice g 248 c);refine bodyPost_ret (v:=.tuple #[.agg #[.int .i64 x4,.int .i64 x5,.int .i64 x6,.slice g 248 c],.int .i64 0]) ?_ rfl ⟨_,rfl,⟨_,rfl,?_⟩,zT HB4.out (jB _) _ _ _ _⟩
    ·simp [results,Tryz.results197,go_sem,q0,q1,q2,q3]
    ·exact (HO.out.keep (fun j hj=>kU _ _ _ _ _ _ _ (by have:=HS4.out;omega))).weaken (Nat.le_of_lt HS4.out)
  ·have hsb:(x0 !=s0)=true:=by simpa using hs
   have hsw:(x0 !=IntKind.i64.wrap s0)=true:=by rw [ws];exact hsb
   have he:E=5:=by rw [HE.out,if_neg hs]
   subst he;clear hs;go_enter func197,ntmps197
   go_wp2_with fail
   go_region_held3 (fun _=>True) (first|trivial|go_keep) (first
    |(go_at_call 198;refine (C0.out _ HB0.out.drew).mono ?_;rintro e w1 ⟨rfl,hb1⟩;have HB1:Hid (Below w.heap.size w w1):=HB0.out.drew.trans (hb1.mono HB0.out.size);have S1:Hid (Slot w1 w.heap.size _ _ _ _):=(S0.out.below (Below.refl _ _).drew).below hb1;clear hb1)
    |(go_at_call 233;refine (CS.out _ HB1.out).mono ?_;rintro e w2 ⟨rfl,hb2⟩;have HB2:Hid (Below w.heap.size w w2):=HB1.out.trans (hb2.mono HB1.out.size);have S2:Hid (Slot w2 w.heap.size _ _ _ _):=S1.out.below hb2;clear hb2))
   obtain ⟨⟨k0,k1,k2,k3⟩,f0,f1,f2,f3⟩:=S2.out;go_wp2;clear k0 k1 k2 k3 f0 f1 f2 f3;obtain ⟨⟨q0,q1,q2,q3⟩,_⟩:=S2.out.wrote (.int .i64 0) (.int .i64 0) (.int .i64 0) (.slice none 0 0);refine bodyPost_ret (v:=.tuple #[.agg #[.int .i64 0,.int .i64 0,.int .i64 0,.slice none 0 0],.int .i64 5]) ?_ rfl ⟨_,rfl,HNO.out (by decide),zT HB2.out (jB _) _ _ _ _⟩;simp [results,Tryz.results197,go_sem,q0,q1,q2,q3]
 ·have hv:opE zs=1:=by simp [opE,hl]
  have hp:=YU w.heap.size w zs (by omega);have hlb:((zs.length:Int) !=256)=true:=by simp;omega
  have hm:=jP h.2.1 h.2.2.1;unfold maxLen at hm;rw [hv];clear hv h hl;go_enter func197,ntmps197
  go_wp2;refine bodyPost_ret (v:=.tuple #[.agg #[.int .i64 0,.int .i64 0,.int .i64 0,.slice none 0 0],.int .i64 1]) ?_ rfl ⟨_,rfl,hp.alloc _,(Below.refl _ _).alloc (jB _) _⟩;simp [results,Tryz.results197,go_sem]
end Go.Proofs.YtaijfhadecennaaGreat.Oct
