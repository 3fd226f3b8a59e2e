/- Part of a proof. -/
import Derived.Test.YtaijfhadecennaaGreatZh
import Derived.Deep.RegionHeld3
import Derived.Test.YtaijfhadecennaaGreatR
namespace Go.Proofs.YtaijfhadecennaaGreat.Oct
open Go.RowKit
theorem JU (A Z B:List Int) (p n:Int) (hz:Bys Z) (hp:p=A.length) (hn:n=Z.length) (h1:1<=Z.length) (h7:Z.length<=7):getI (A++(Z++B)) p n=num Z 0 Z.length:=by
 have hb:=XT hz 0 Z.length h7;unfold getI;rw [hp,hn,YX h1 (by omega) (by simp),if_pos rfl,jS,jS,num_mid _ _ _ _ (jB _)];exact (QG (by omega)).1
def padP (p:Pg):Pg:=⟨p.kind,p.level,p.count,p.body++List.replicate (248-p.body.length) 0⟩
theorem XP (p:Pg):sealL p=nums 4 (crc (tailP p)).toNat++(nums 1 p.kind.toNat++(nums 1 p.level.toNat++(nums 2 p.count.toNat++(padP p).body))):=by
 unfold sealL tailP padP;simp only [jX]
theorem numsZ {n X:Nat} (h:X<256^n):num (nums n X) 0 (nums n X).length=(X:Int):=by rw [yS];exact num_nums n X h
theorem fO {p:Pg} (hb:Bys p.body) (h:sealE p=0):opE (sealL p)=0/\opP (sealL p)=padP p:=by
 obtain ⟨ha,hl⟩:=sealE_zero h;obtain ⟨h1,h2,h3⟩:=argP_out ha;have hc:=KD (VH hb);have hlen:=ZX hl
 have hd4:(sealL p).drop 4=tailP p:=by
  unfold sealL;rw [yL,yS,qW (by rw [yS];omega)];simp
 have g0:getI (sealL p) 0 4=crc (tailP p):=by
  have:=JU [] (nums 4 (crc (tailP p)).toNat) (tailP p) 0 4 (zR _ _) rfl (by rw [yS];rfl) (by rw [yS];omega) (by rw [yS];omega);rw [xN] at this;show getI (nums 4 (crc (tailP p)).toNat++tailP p) 0 4=_;rw [this,numsZ (by omega)];omega
 have g4:getI (sealL p) 4 1=p.kind:=by
  rw [XP,JU (nums 4 _) (nums 1 p.kind.toNat) _ 4 1 (zR _ _) (by rw [yS];rfl) (by rw [yS];rfl) (by rw [yS];omega) (by rw [yS];omega),numsZ (by omega)];omega
 have g5:getI (sealL p) 5 1=p.level:=by
  rw [XP,<-jX,JU (nums 4 _++nums 1 p.kind.toNat) (nums 1 p.level.toNat) _ 5 1 (zR _ _) (by simp [yS]) (by rw [yS];rfl) (by rw [yS];omega) (by rw [yS];omega),numsZ (by omega)];omega
 have g6:getI (sealL p) 6 2=p.count:=by
  rw [XP,<-jX,<-jX,JU ((nums 4 _++nums 1 p.kind.toNat)++nums 1 p.level.toNat) (nums 2 p.count.toNat) _ 6 2 (zR _ _) (by simp [yS]) (by rw [yS];rfl) (by rw [yS];omega) (by rw [yS];omega),numsZ (by omega)];omega
 have hd8:(sealL p).drop 8=(padP p).body:=by
  rw [XP,<-jX,<-jX,<-jX];have hl8:(((nums 4 (crc (tailP p)).toNat++nums 1 p.kind.toNat)++nums 1 p.level.toNat)++nums 2 p.count.toNat).length=8:=by simp [yS]
  rw [yL,hl8,qW (by omega)];simp
 have he:opE (sealL p)=0:=by
  unfold opE;rw [if_pos hlen,g0,hd4,if_pos rfl,g4,show okK p.kind=true from jE h1];rfl
 refine ⟨he,?_⟩;unfold opP;rw [if_pos he,g4,g5,g6,hd8];rfl
theorem cut5 (raw:List Int) (hl:raw.length=256):∃A B C D F:List Int,raw=A++(B++(C++(D++F)))/\A.length=4/\B.length=1/\C.length=1/\D.length=2/\F.length=248:=by
 refine ⟨raw.take 4,(raw.drop 4).take 1,((raw.drop 4).drop 1).take 1,(((raw.drop 4).drop 1).drop 1).take 2,(((raw.drop 4).drop 1).drop 1).drop 2,?_,?_,?_,?_,?_,?_⟩
 ·simp only [xE]
 all_goals simp [hl]
theorem JW {raw:List Int} (hb:Bys raw) (h:opE raw=0):sealE (opP raw)=0/\sealL (opP raw)=raw/\Bys (opP raw).body/\(opP raw).body.length=248:=by
 have hp:opP raw=⟨getI raw 4 1,getI raw 5 1,getI raw 6 2,raw.drop 8⟩:=by unfold opP;rw [if_pos h]
 unfold opE at h;by_cases hl:raw.length=256
 ·rw [if_pos hl] at h;by_cases hs:getI raw 0 4=crc (raw.drop 4)
  ·rw [if_pos hs] at h;by_cases hk:okK (getI raw 4 1)=true
   ·have hk':1<=getI raw 4 1/\getI raw 4 1<=5:=jZ hk;obtain ⟨A,B,C,D,F,e,lA,lB,lC,lD,lF⟩:=cut5 raw hl;have bA:Bys A:=fun z hz=>hb z (by rw [e];simp [hz])
    have bB:Bys B:=fun z hz=>hb z (by rw [e];simp [hz])
    have bC:Bys C:=fun z hz=>hb z (by rw [e];simp [hz])
    have bD:Bys D:=fun z hz=>hb z (by rw [e];simp [hz])
    have bF:Bys F:=fun z hz=>hb z (by rw [e];simp [hz])
    have g0:getI raw 0 4=num A 0 A.length:=by
     have:=JU [] A (B++(C++(D++F))) 0 4 bA rfl (by rw [lA];rfl) (by omega) (by omega);rw [xN] at this;rw [e];exact this
    have g4:getI raw 4 1=num B 0 B.length:=by
     rw [e,JU A B _ 4 1 bB (by rw [lA];rfl) (by rw [lB];rfl) (by omega) (by omega)]
    have g5:getI raw 5 1=num C 0 C.length:=by
     rw [e,<-jX,JU (A++B) C _ 5 1 bC (by rw [jN,lA,lB];rfl) (by rw [lC];rfl) (by omega) (by omega)]
    have g6:getI raw 6 2=num D 0 D.length:=by
     rw [e,<-jX,<-jX,JU ((A++B)++C) D _ 6 2 bD (by rw [jN,jN,lA,lB,lC];rfl) (by rw [lD];rfl) (by omega) (by omega)]
    have d4:raw.drop 4=B++(C++(D++F)):=by rw [e,yL,lA,qW (by omega)];simp
    have d8:raw.drop 8=F:=by
     rw [e,<-jX,<-jX,<-jX,yL,qW (by simp [lA,lB,lC,lD])];simp [lA,lB,lC,lD]
    have n1:nums 1 (num B 0 B.length).toNat=B:=by have:=uN bB;rwa [lB] at this ⊢
    have n2:nums 1 (num C 0 C.length).toNat=C:=by have:=uN bC;rwa [lC] at this ⊢
    have n3:nums 2 (num D 0 D.length).toNat=D:=by have:=uN bD;rwa [lD] at this ⊢
    have n0:nums 4 (num A 0 A.length).toNat=A:=by have:=uN bA;rwa [lA] at this ⊢
    have ht:tailP (opP raw)=raw.drop 4:=by
     rw [hp,d4];unfold tailP;dsimp only;rw [g4,g5,g6,d8,n1,n2,n3,lF];simp
    have b5:=ZJ bC 0 C.length;have b6:=ZJ bD 0 D.length;rw [lC] at b5;rw [lD] at b6;have e5:getI raw 5 1=num C 0 1:=by rw [g5,lC]
    have e6:getI raw 6 2=num D 0 2:=by rw [g6,lD]
    refine ⟨?_,?_,?_,?_⟩
    ·unfold sealE
     have:argP (opP raw)=true:=by
      rw [hp];refine jE ⟨hk',?_,?_⟩
      ·show 0<=getI raw 5 1/\getI raw 5 1<=255;rw [e5];omega
      ·show 0<=getI raw 6 2/\getI raw 6 2<=65535;rw [e6];omega
     rw [if_pos this,if_pos (by rw [hp];show (raw.drop 8).length<=248;rw [d8];omega)]
    ·unfold sealL;rw [ht,<-hs,g0,n0,d4,<-e]
    ·rw [hp];show Bys (raw.drop 8);rw [d8];exact bF
    ·rw [hp];show (raw.drop 8).length=248;rw [d8];exact lF
   ·rw [if_neg hk] at h;exact absurd h (by decide)
  ·rw [if_neg hs] at h;exact absurd h (by decide)
 ·rw [if_neg hl] at h;exact absurd h (by decide)
structure Sp where
 g:Int
 p:Int
 r:Int
 h:Int
 b:Int
 l:Int
 s:Int
 f:Int
def sp0:Sp:=⟨0,0,0,0,0,0,0,0⟩
def spV (S:Sp):Value:=.agg #[.int .i64 S.g,.int .i64 S.p,.int .i64 S.r,.int .i64 S.h,.int .i64 S.b,.int .i64 S.l,.int .i64 S.s,.int .i64 S.f]
def ldB (p n:Int):Bool:=decide (n=0\/(2<=n/\n<=p-1))
def fitS (S:Sp) (k:Nat):Bool:=match k with
 |0=>decide (1<=S.g/\S.g<=1152921504606846976)
 |1=>decide (8<=S.p/\S.p<=4096)
 |2=>ldB S.p S.r
 |3=>decide ((0<=S.h/\S.h<=32)/\(S.h=0↔S.r=0))
 |4=>decide ((0<=S.b/\S.b<=1048576)/\(S.b=0↔S.r=0))
 |5=>decide (0<=S.l/\S.l<=S.b)
 |6=>ldB S.p S.s
 |_=>ldB S.p S.f
def okS (S:Sp):Bool:=fitS S 0&&fitS S 1&&fitS S 2&&fitS S 3&&fitS S 4&&fitS S 5&&fitS S 6&&fitS S 7
def atS (S:Sp) (k:Nat):Int:=match k with
 |0=>S.g
 |1=>S.p
 |2=>S.r
 |3=>S.h
 |4=>S.b
 |5=>S.l
 |6=>S.s
 |_=>S.f
def wdS (k:Nat):Nat:=match k with
 |0=>8
 |3=>2
 |_=>4
def ofS (k:Nat):Nat:=match k with
 |0=>0
 |1=>8
 |2=>12
 |3=>16
 |4=>18
 |5=>22
 |6=>26
 |7=>30
 |_=>34
theorem eight {k:Nat} (h:k<8):k=0\/k=1\/k=2\/k=3\/k=4\/k=5\/k=6\/k=7:=by omega
theorem uM {k:Nat} (h:k<8):ofS (k+1)=ofS k+wdS k:=by
 rcases eight h with rfl|rfl|rfl|rfl|rfl|rfl|rfl|rfl<;>rfl
theorem wdS_bd (k:Nat):1<=wdS k/\wdS k<=8:=by
 unfold wdS;split<;>omega
theorem ofS_bd {k:Nat} (h:k<8):ofS k+wdS k<=34:=by
 rcases eight h with rfl|rfl|rfl|rfl|rfl|rfl|rfl|rfl<;>decide
theorem okS_all {S:Sp}:okS S=true↔∀k,k<8->fitS S k=true:=by
 unfold okS;simp only [jO];constructor
 ·rintro ⟨⟨⟨⟨⟨⟨⟨h0,h1⟩,h2⟩,h3⟩,h4⟩,h5⟩,h6⟩,h7⟩ k hk;rcases eight hk with rfl|rfl|rfl|rfl|rfl|rfl|rfl|rfl<;>assumption
 ·intro h;exact ⟨⟨⟨⟨⟨⟨⟨h 0 (by omega),h 1 (by omega)⟩,h 2 (by omega)⟩,h 3 (by omega)⟩,h 4 (by omega)⟩,h 5 (by omega)⟩,h 6 (by omega)⟩,h 7 (by omega)⟩
theorem okS_no {S:Sp} {k:Nat} (hk:k<8) (h:fitS S k=false):okS S=false:=by
 cases he:okS S
 ·rfl
 ·have:=okS_all.1 he k hk;rw [h] at this;cases this
theorem ZI {S:Sp} (h:okS S=true):(1<=S.g/\S.g<=1152921504606846976)/\(8<=S.p/\S.p<=4096)/\(0<=S.r/\S.r<=4095)/\(0<=S.h/\S.h<=32)/\(0<=S.b/\S.b<=1048576)/\(0<=S.l/\S.l<=1048576)/\(0<=S.s/\S.s<=4095)/\(0<=S.f/\S.f<=4095):=by
 have h':=okS_all.1 h;have h0:=jZ (h' 0 (by omega));have h1:=jZ (h' 1 (by omega));have h2:=jZ (h' 2 (by omega));have h3:=jZ (h' 3 (by omega));have h4:=jZ (h' 4 (by omega));have h5:=jZ (h' 5 (by omega));have h6:=jZ (h' 6 (by omega));have h7:=jZ (h' 7 (by omega));refine ⟨h0,h1,by omega,h3.1,h4.1,by omega,by omega,by omega⟩
theorem fit8 (x:Int):fitB 8 x=decide (0<=x/\x<=4611686018427387904):=by
 unfold fitB;rw [yE];simp only [jR,show (8:Int).toNat=8 from rfl,Int.pow_succ,Int.pow_zero];omega
theorem GI {S:Sp} (h:okS S=true) {k:Nat} (hk:k<8):fitB (wdS k:Nat) (atS S k)=true:=by
 obtain ⟨h0,h1,h2,h3,h4,h5,h6,h7⟩:=ZI h;rcases eight hk with rfl|rfl|rfl|rfl|rfl|rfl|rfl|rfl
 ·show fitB 8 S.g=true;rw [fit8];exact jE (by omega)
 ·show fitB 4 S.p=true;rw [fit4];exact jE (by omega)
 ·show fitB 4 S.r=true;rw [fit4];exact jE (by omega)
 ·show fitB 2 S.h=true;rw [fit2];exact jE (by omega)
 ·show fitB 4 S.b=true;rw [fit4];exact jE (by omega)
 ·show fitB 4 S.l=true;rw [fit4];exact jE (by omega)
 ·show fitB 4 S.s=true;rw [fit4];exact jE (by omega)
 ·show fitB 4 S.f=true;rw [fit4];exact jE (by omega)
def preS (S:Sp):Nat->List Int
 |0=>[]
 |k+1=>preS S k++nums (wdS k) (atS S k).toNat
theorem QH (S:Sp):∀k,k<=8->(preS S k).length=ofS k:=by
 intro k
 induction k with
 |zero=>intro _;rfl
 |succ k ih=>
  intro hk;rw [preS,jN,yS,ih (by omega),uM (by omega)]
theorem VZ (S:Sp):∀k,Bys (preS S k):=by
 intro k
 induction k with
 |zero=>intro z hz;cases hz
 |succ k ih=>exact ih.app (zR _ _)
def shS (S:Sp) (k:Nat):List Int:=preS S k++List.replicate (248-ofS k) 0
theorem ZV (S:Sp) {k:Nat} (h:k<=8):(shS S k).length=248:=by
 have:ofS k<=34:=by unfold ofS;split<;>omega
 unfold shS;rw [jN,QH S k h,jK];omega
theorem gB (S:Sp) (k:Nat):Bys (shS S k):=(VZ S k).app (XC _)
theorem shS_next {S:Sp} (h:okS S=true) {k:Nat} (hk:k<8):putB (shS S k) (ofS k:Nat) (wdS k:Nat) (atS S k)=true/\putR (shS S k) (ofS k:Nat) (wdS k:Nat) (atS S k)=shS S (k+1):=by
 have hw:=wdS_bd k;have ho:=ofS_bd hk
 have e:shS S k=preS S k++(List.replicate (wdS k) 0++List.replicate (248-ofS (k+1)) 0):=by
  unfold shS;rw [xI,uM hk]
  congr 2
  omega
 obtain ⟨q1,q2⟩:=uG (preS S k) (List.replicate (wdS k) 0) (List.replicate (248-ofS (k+1)) 0) (ofS k:Nat) (wdS k:Nat) (atS S k) (by rw [QH S k (by omega)]) (by rw [jK]) (by rw [jK];omega) (by rw [jK];omega) (GI h hk);rw [<-e] at q1 q2;refine ⟨q1,?_⟩;rw [q2,jK,shS,preS,jX]
theorem getI_nums (A B:List Int) (n X:Nat) (p m:Int) (hp:p=A.length) (hm:m=n) (h1:1<=n) (h8:n<=8) (hX:X<256^n) (hc:X<=4611686018427387904):getI (A++(nums n X++B)) p m=X/\getB (A++(nums n X++B)) p m=true:=by
 have hl:=yS n X
 have e:num (A++(nums n X++B)) A.length n=(X:Int):=by
  rw [num_mid _ _ _ _ (by omega),num_nums n X hX]
 unfold getI getB;rw [hp,hm,YX h1 h8 (by simp [hl]),if_pos rfl,if_pos rfl,jS,jS,e];exact ⟨(QG (by omega)).1,(QG (by omega)).2⟩
def sdL (zs:List Int):Sp:=⟨getI zs 0 8,getI zs 8 4,getI zs 12 4,getI zs 16 2,getI zs 18 4,getI zs 22 4,getI zs 26 4,getI zs 30 4⟩
theorem pre_split (S:Sp) (B:List Int):∀d k,k+d=8->∃C,preS S 8++B=preS S k++C/\(0<d->∃C',C=nums (wdS k) (atS S k).toNat++C'):=by
 intro d
 induction d with
 |zero=>intro k hk;obtain rfl:k=8:=by omega
        exact ⟨B,rfl,fun h=>by omega⟩
 |succ d ih=>
  intro k hk;obtain ⟨C,hC,_⟩:=ih (k+1) (by omega);refine ⟨nums (wdS k) (atS S k).toNat++C,?_,fun _=>⟨C,rfl⟩⟩;rw [hC,preS,jX]
theorem pow_nat (n:Nat):(256:Int)^n=((256^n:Nat):Int):=by
 induction n with
 |zero=>rfl
 |succ n ih=>rw [Int.pow_succ,Nat.pow_succ,ih,Int.natCast_mul];rfl
theorem YN {S:Sp} (h:okS S=true) (B:List Int) {k:Nat} (hk:k<8):getI (preS S 8++B) (ofS k:Nat) (wdS k:Nat)=atS S k/\getB (preS S 8++B) (ofS k:Nat) (wdS k:Nat)=true:=by
 obtain ⟨C,hC,hC'⟩:=pre_split S B (8-k) k (by omega);obtain ⟨D,hD⟩:=hC' (by omega);have hf:=GI h hk;unfold fitB at hf;have hf':=jZ hf;rw [jS] at hf';have hw:=wdS_bd k;obtain ⟨X,hX⟩:=jW hf'.1
 have hlt:X<256^wdS k:=by
  have:=hf'.2.2;rw [hX,pow_nat] at this;exact Int.ofNat_lt.1 this
 have:=getI_nums (preS S k) D (wdS k) (atS S k).toNat (ofS k:Nat) (wdS k:Nat) (by rw [QH S k (by omega)]) rfl hw.1 hw.2 (by rw [hX];exact hlt) (by omega);rw [hC,hD];refine ⟨this.1.trans (by omega),this.2⟩
theorem sdL_pre {S:Sp} (h:okS S=true) (B:List Int):sdL (preS S 8++B)=S:=by
 have g0:=(YN h B (k:=0) (by omega)).1;have g1:=(YN h B (k:=1) (by omega)).1;have g2:=(YN h B (k:=2) (by omega)).1;have g3:=(YN h B (k:=3) (by omega)).1;have g4:=(YN h B (k:=4) (by omega)).1;have g5:=(YN h B (k:=5) (by omega)).1;have g6:=(YN h B (k:=6) (by omega)).1;have g7:=(YN h B (k:=7) (by omega)).1;obtain ⟨a0,a1,a2,a3,a4,a5,a6,a7⟩:=S;unfold sdL;rw [Sp.mk.injEq];exact ⟨g0,g1,g2,g3,g4,g5,g6,g7⟩
def deB (P:Pg):Bool:=decide (P.kind=1/\P.level=0/\P.count=0)&&(nouB (P.body.drop 34)&&okS (sdL P.body))
def deE (zs:List Int):Int:=if opE zs=0 then (if deB (opP zs) then 0 else 4) else opE zs
def deS (zs:List Int):Sp:=if deE zs=0 then sdL (opP zs).body else sp0
def pgS (S:Sp):Pg:=⟨1,0,0,preS S 8⟩
def enE (S:Sp):Int:=if okS S then 0 else 1
def enZ (S:Sp):List Int:=if okS S then sealL (pgS S) else []
theorem pgS_ok (S:Sp):sealE (pgS S)=0:=by
 have hl:(pgS S).body.length=34:=QH S 8 (by omega);unfold sealE;rw [if_pos (show argP (pgS S)=true from rfl),if_pos (by omega)]
theorem seal_sh (S:Sp):sealE ⟨1,0,0,shS S 8⟩=0/\sealL ⟨1,0,0,shS S 8⟩=sealL (pgS S):=by
 have hl:=ZV S (k:=8) (by omega);have hp:=QH S 8 (by omega)
 have e:tailP ⟨1,0,0,shS S 8⟩=tailP (pgS S):=by
  unfold tailP pgS;dsimp only;rw [hl,hp,show shS S 8=preS S 8++List.replicate (248-ofS 8) 0 from rfl,show ofS 8=34 from rfl,Nat.sub_self,List.replicate_zero,xW,<-jX]
 constructor
 ·unfold sealE;rw [if_pos (show argP ⟨1,0,0,shS S 8⟩=true from rfl),if_pos (show (shS S 8).length<=248 by omega)]
 ·unfold sealL;rw [e]
theorem nou_rep (n:Nat):nouB (List.replicate n 0)=true:=by
 unfold nouB;rw [List.all_eq_true];intro z hz;have:=List.eq_of_mem_replicate hz;simp [this]
theorem dec_enc {S:Sp} (h:okS S=true):opE (sealL (pgS S))=0/\opP (sealL (pgS S))=padP (pgS S)/\deE (sealL (pgS S))=0/\deS (sealL (pgS S))=S:=by
 obtain ⟨o1,o2⟩:=fO (p:=pgS S) (VZ S 8) (pgS_ok S);have hp:=QH S 8 (by omega);have hs:sdL (padP (pgS S)).body=S:=sdL_pre h _
 have hd:(padP (pgS S)).body.drop 34=List.replicate 214 0:=by
  show (preS S 8++List.replicate (248-(preS S 8).length) 0).drop 34=_;rw [yL,hp];rw [qW (by rw [hp];decide)];rfl
 have hB:deB (padP (pgS S))=true:=by
  unfold deB;rw [hs,h,hd,nou_rep];rfl
 have he:deE (sealL (pgS S))=0:=by
  unfold deE;rw [if_pos o1,o2,if_pos hB]
 refine ⟨o1,o2,he,?_⟩;unfold deS;rw [if_pos he,o2,hs]
theorem de_gen {zs:List Int} (h:deE zs=0):okS (deS zs)=true:=by
 have hs:deS zs=sdL (opP zs).body:=by unfold deS;rw [if_pos h]
 unfold deE at h;by_cases ho:opE zs=0
 ·rw [if_pos ho] at h;by_cases hB:deB (opP zs)=true
  ·unfold deB at hB;simp only [jO] at hB;rw [hs];exact hB.2.2
  ·rw [if_neg hB] at h;exact absurd h (by decide)
 ·rw [if_neg ho] at h;exact absurd h ho
structure C4 where
 a:Int
 b:Int
 c:Int
 d:Int
def c40:C4:=⟨0,0,0,0⟩
def atC (q:C4) (k:Nat):Int:=match k with
 |0=>q.a
 |1=>q.b
 |2=>q.c
 |_=>q.d
def wdC (t:Bool) (k:Nat):Nat:=match t,k with
 |false,0=>4
 |false,_=>2
 |true,2=>8
 |true,_=>4
def ofC (t:Bool) (k:Nat):Nat:=match t,k with
 |false,0=>0
 |false,1=>4
 |false,2=>6
 |false,3=>8
 |false,_=>10
 |true,0=>0
 |true,1=>4
 |true,2=>8
 |true,3=>16
 |true,_=>20
def szC (t:Bool):Nat:=match t with
 |false=>12
 |true=>20
def okC (t:Bool) (q:C4):Bool:=match t with
 |false=>decide ((2<=q.a/\q.a<=4095)/\0<=q.b/\(1<=q.c/\q.c<=248-q.b)/\(0<=q.d/\q.d<=q.c))
 |true=>decide ((2<=q.a/\q.a<=4095)/\1<=q.b/\(q.b<=q.c/\q.c<=1048576)/\(0<=q.d/\q.d<=q.c))
theorem four {k:Nat} (h:k<4):k=0\/k=1\/k=2\/k=3:=by omega
theorem ofC_next (t:Bool) {k:Nat} (h:k<4):ofC t (k+1)=ofC t k+wdC t k:=by
 cases t<;>rcases four h with rfl|rfl|rfl|rfl<;>rfl
theorem wdC_bd (t:Bool) (k:Nat):1<=wdC t k/\wdC t k<=8:=by
 unfold wdC;split<;>omega
theorem ofC_bd (t:Bool) {k:Nat} (h:k<4):ofC t k+wdC t k<=szC t:=by
 cases t<;>rcases four h with rfl|rfl|rfl|rfl<;>decide
theorem ofC_le (t:Bool) {k:Nat} (h:k<=4):ofC t k<=szC t:=by
 cases t<;>rcases (show k=0\/k=1\/k=2\/k=3\/k=4 by omega) with rfl|rfl|rfl|rfl|rfl<;>decide
theorem okC_bd {t:Bool} {q:C4} (h:okC t q=true):(2<=q.a/\q.a<=4095)/\(0<=q.b/\q.b<=1048576)/\(1<=q.c/\q.c<=1048576)/\(0<=q.d/\q.d<=1048576)/\(t=false->q.b<=247/\q.c<=248/\q.d<=248):=by
 cases t
 ·have:=jZ h;refine ⟨this.1,?_,?_,?_,fun _=>?_⟩<;>omega
 ·have:=jZ h;refine ⟨this.1,?_,?_,?_,fun e=>by cases e⟩<;>omega
def preC (t:Bool) (q:C4):Nat->List Int
 |0=>[]
 |k+1=>preC t q k++nums (wdC t k) (atC q k).toNat
def shC (t:Bool) (q:C4) (k:Nat):List Int:=preC t q k++List.replicate (szC t-ofC t k) 0
def celC (t:Bool) (q:C4):List Int:=shC t q 4
def rdC (t:Bool) (zs:List Int):C4:=⟨getI zs (ofC t 0:Nat) (wdC t 0:Nat),getI zs (ofC t 1:Nat) (wdC t 1:Nat),getI zs (ofC t 2:Nat) (wdC t 2:Nat),getI zs (ofC t 3:Nat) (wdC t 3:Nat)⟩
theorem rdC_at (t:Bool) (zs:List Int) {k:Nat} (hk:k<4):atC (rdC t zs) k=getI zs (ofC t k:Nat) (wdC t k:Nat):=by
 rcases four hk with rfl|rfl|rfl|rfl<;>rfl
def okCell (t:Bool) (zs:List Int):Bool:=nouB ((zs.take (szC t)).drop (ofC t 4))&&okC t (rdC t zs)
theorem nums_cut {zs:List Int} (h:Bys zs) (p n:Nat) (hl:p+n<=zs.length):nums n (num zs p n).toNat=(zs.drop p).take n:=by
 refine ZZ (by rw [yS,qG,qC];omega) fun i hi=>?_
 rw [yS] at hi;rw [gW _ _ _ hi,dgt_num h p _ _ hi];simp only [jA,xZ,qO,if_pos hi]
theorem num_at {zs:List Int} (h:Bys zs) {t:Bool} (hl:szC t<=zs.length) (hk:okC t (rdC t zs)=true) {k:Nat} (hk4:k<4):num zs (ofC t k) (wdC t k)=atC (rdC t zs) k:=by
 have hw:=wdC_bd t k;have ho:=ofC_bd t hk4
 have e:getI zs (ofC t k:Nat) (wdC t k:Nat)=capI (num zs (ofC t k) (wdC t k)):=by
  unfold getI;rw [YX hw.1 hw.2 (by omega),if_pos rfl,jS,jS]
 rw [rdC_at t zs hk4,e];by_cases hc:num zs (ofC t k) (wdC t k)<=4611686018427387904
 ·rw [(QG hc).1]
 ·exfalso;by_cases h7:wdC t k<=7
  ·have:=XT h (ofC t k) (wdC t k) h7;omega
  ·have hk2:t=true/\k=2:=by
    cases t
    ·rcases four hk4 with rfl|rfl|rfl|rfl<;>exact absurd (by decide) h7
    ·rcases four hk4 with rfl|rfl|rfl|rfl
     ·exact absurd (by decide) h7
     ·exact absurd (by decide) h7
     ·exact ⟨rfl,rfl⟩
     ·exact absurd (by decide) h7
   obtain ⟨rfl,rfl⟩:=hk2;have hz:(rdC true zs).c=0:=e.trans (UD (by omega)).1;have:=(okC_bd hk).2.2.1;omega
theorem pre_rd {zs:List Int} (h:Bys zs) {t:Bool} (hl:szC t<=zs.length) (hk:okC t (rdC t zs)=true):∀k,k<=4->preC t (rdC t zs) k=zs.take (ofC t k):=by
 intro k
 induction k with
 |zero=>intro _;cases t<;>rfl
 |succ k ih=>
  intro hk4;have ho:=ofC_bd t (k:=k) (by omega);rw [preC,ih (by omega),<-num_at h hl hk (by omega),nums_cut h _ _ (by omega),ofC_next t (by omega),List.take_add]
theorem nou_eq {zs:List Int} (h:nouB zs=true):zs=List.replicate zs.length 0:=by
 rw [List.eq_replicate_iff];refine ⟨rfl,fun z hz=>?_⟩;unfold nouB at h;have:=List.all_eq_true.1 h z hz
 simpa using this
theorem cel_rd {zs:List Int} (h:Bys zs) {t:Bool} (hl:szC t<=zs.length) (hk:okCell t zs=true):celC t (rdC t zs)=zs.take (szC t):=by
 unfold okCell at hk;rw [jO] at hk;have hn:=nou_eq hk.1;have ho:=ofC_le t (k:=4) (by omega);rw [qC,qG,xX hl] at hn;unfold celC shC;rw [pre_rd h hl hk.2 4 (jB _),<-hn];have:zs.take (ofC t 4)=(zs.take (szC t)).take (ofC t 4):=by rw [List.take_take,xX ho]
 rw [this,xE]
def celsC (t:Bool) (l:List C4):List Int:=l.flatMap (celC t)
theorem cels_snoc (t:Bool) (l:List C4) (q:C4):celsC t (l++[q])=celsC t l++celC t q:=by simp [celsC]
def cellAt (t:Bool) (zs:List Int) (i:Nat):C4:=rdC t (zs.drop (i*szC t))
def okAt (t:Bool) (zs:List Int) (i:Nat):Bool:=okCell t (zs.drop (i*szC t))
def rdL (t:Bool) (zs:List Int) (n:Nat):List C4:=(List.range n).map (cellAt t zs)
def okL (t:Bool) (zs:List Int) (n:Nat):Bool:=(List.range n).all (okAt t zs)
theorem rdL_len (t:Bool) (zs:List Int) (n:Nat):(rdL t zs n).length=n:=by simp [rdL]
theorem rdL_succ (t:Bool) (zs:List Int) (n:Nat):rdL t zs (n+1)=rdL t zs n++[cellAt t zs n]:=by simp [rdL,List.range_succ]
theorem okL_all {t:Bool} {zs:List Int} {n:Nat}:okL t zs n=true↔∀i,i<n->okAt t zs i=true:=by
 unfold okL;rw [List.all_eq_true];exact ⟨fun h i hi=>h i (List.mem_range.2 hi),fun h i hi=>h i (List.mem_range.1 hi)⟩
theorem cels_rdL {zs:List Int} (h:Bys zs) {t:Bool}:∀n,n*szC t<=zs.length->okL t zs n=true->celsC t (rdL t zs n)=zs.take (n*szC t):=by
 intro n
 induction n with
 |zero=>intro _ _;simp [rdL,celsC]
 |succ n ih=>
  intro hl hk;have hs:(n+1)*szC t=n*szC t+szC t:=Nat.succ_mul _ _;have hok:=okL_all.1 hk;rw [rdL_succ,cels_snoc,ih (by omega) (okL_all.2 fun i hi=>hok i (by omega)),hs,List.take_add]
  congr 1
  refine cel_rd (fun z hz=>h z (jV hz)) (by rw [qC];omega) (hok n (by omega))
theorem ok_rdL {t:Bool} {zs:List Int} {n:Nat} (h:okL t zs n=true):∀q∈rdL t zs n,okC t q=true:=by
 intro q hq;obtain ⟨i,hi,rfl⟩:=List.mem_map.1 hq;have:=okL_all.1 h i (List.mem_range.1 hi);unfold okAt okCell at this;rw [jO] at this;exact this.2
structure St where
 kind:Int
 lo:Int
 hi:Int
 most:Int
def leafS:St:=⟨3,0,0,20⟩
def innerS:St:=⟨2,1,32,12⟩
def textS:St:=⟨4,0,0,248⟩
def shtT (t:Bool):St:=match t with
 |false=>leafS
 |true=>innerS
def takesB (s:St) (lv ct:Int):Bool:=decide (s.lo<=lv/\lv<=s.hi)&&decide (1<=ct/\ct<=s.most)
theorem takes_iff {s:St} {lv ct:Int}:takesB s lv ct=true↔(s.lo<=lv/\lv<=s.hi)/\(1<=ct/\ct<=s.most):=by
 unfold takesB;rw [jO,jR,jR]
def layB (t:Bool) (lv:Int) (l:List C4):Bool:=takesB (shtT t) lv l.length&&l.all (okC t)
def pgC (t:Bool) (lv:Int) (l:List C4):Pg:=⟨(shtT t).kind,lv,l.length,celsC t l⟩
def layZ (t:Bool) (lv:Int) (l:List C4):List Int:=if layB t lv l then sealL (pgC t lv l) else []
theorem layB_out {t:Bool} {lv:Int} {l:List C4} (h:layB t lv l=true):((shtT t).lo<=lv/\lv<=(shtT t).hi)/\(1<=(l.length:Int)/\(l.length:Int)<=(shtT t).most)/\∀q∈l,okC t q=true:=by
 unfold layB at h;rw [jO,takes_iff] at h;exact ⟨h.1.1,h.1.2,List.all_eq_true.1 h.2⟩
theorem most_fits (t:Bool) {n:Nat} (h:(n:Int)<=(shtT t).most):n*szC t<=240/\n<=20:=by
 cases t
 ·have:n<=20:=by have:(n:Int)<=20:=h;omega
  exact ⟨by show n*12<=240;omega,this⟩
 ·have:n<=12:=by have:(n:Int)<=12:=h;omega
  exact ⟨by show n*20<=240;omega,by omega⟩
def opB (s:St) (P:Pg):Bool:=decide (P.kind=s.kind)&&takesB s P.level P.count
def reB (t:Bool) (P:Pg):Bool:=opB (shtT t) P&&(okL t P.body P.count.toNat&&nouB (P.body.drop (P.count.toNat*szC t)))
def reE (t:Bool) (zs:List Int):Int:=if opE zs=0 then (if reB t (opP zs) then 0 else 4) else opE zs
def reL (t:Bool) (zs:List Int):List C4:=if reE t zs=0 then rdL t (opP zs).body (opP zs).count.toNat else []
def reV (t:Bool) (zs:List Int):Int:=if reE t zs=0 then (opP zs).level else 0
theorem reE_zero {t:Bool} {zs:List Int} (h:reE t zs=0):opE zs=0/\reB t (opP zs)=true:=by
 unfold reE at h;by_cases ho:opE zs=0
 ·rw [if_pos ho] at h;refine ⟨ho,?_⟩;cases hB:reB t (opP zs)
  ·rw [hB] at h;exact absurd h (by decide)
  ·rfl
 ·rw [if_neg ho] at h;exact absurd h ho
theorem lay_re {t:Bool} {zs:List Int} (hb:Bys zs) (h:reE t zs=0):layB t (reV t zs) (reL t zs)=true/\layZ t (reV t zs) (reL t zs)=zs:=by
 obtain ⟨ho,hB⟩:=reE_zero h;obtain ⟨s1,s2,s3,s4⟩:=JW hb ho;have hV:reV t zs=(opP zs).level:=by unfold reV;rw [if_pos h]
 have hL:reL t zs=rdL t (opP zs).body (opP zs).count.toNat:=by unfold reL;rw [if_pos h]
 unfold reB opB at hB;rw [jO,jO,jO] at hB;obtain ⟨⟨k1,k2⟩,k3,k4⟩:=hB;have k1:=jZ k1;have k2':=takes_iff.1 k2;have hct:(((opP zs).count.toNat:Nat):Int)=(opP zs).count:=by omega
 obtain ⟨m1,m2⟩:=most_fits t (n:=(opP zs).count.toNat) (by rw [hct];exact k2'.2.2);have hc:=cels_rdL s3 (t:=t) (opP zs).count.toNat (by omega) k3
 have hlb:layB t (reV t zs) (reL t zs)=true:=by
  unfold layB;rw [jO,hV,hL,rdL_len,hct];exact ⟨k2,List.all_eq_true.2 (ok_rdL k3)⟩
 refine ⟨hlb,?_⟩;unfold layZ;rw [if_pos hlb];refine Eq.trans ?_ s2;have hn:=nou_eq k4;rw [qC,s4] at hn
 have e:tailP (pgC t (reV t zs) (reL t zs))=tailP (opP zs):=by
  unfold tailP pgC;dsimp only;rw [hV,hL,rdL_len,hct,<-k1,hc,s4,qG,s4,xX (by omega),<-hn,Nat.sub_self,List.replicate_zero,xW,jX,xE]
 unfold sealL;rw [e]
def teB (P:Pg):Bool:=opB textS P&&nouB (P.body.drop P.count.toNat)
def teE (zs:List Int):Int:=if opE zs=0 then (if teB (opP zs) then 0 else 4) else opE zs
def teL (zs:List Int):List Int:=if teE zs=0 then (opP zs).body.take (opP zs).count.toNat else []
theorem XA {zs:List Int} (h:Bys zs):Bys (opP zs).body:=by
 unfold opP;split
 ·exact fun z hz=>h z (jV hz)
 ·intro z hz;cases hz
theorem open_v (a:Option Addr) (cap n:Nat) (zs:List Int) (w:World) (h:Row w a cap zs) (hn:zs.length=n) (E:Int) (hE:opE zs=E) (P:Pg) (hP:opP zs=P):
  Calls Tryz.prog 173 #[.slice a n cap] w fun e w'=>∃g c,e=.returned (.tuple #[pgV P g c,.int .i64 E])/\Own w.heap.size w' (.slice g P.body.length c) P.body/\Below w.heap.size w w':=by
 subst hn hE hP;refine (open_any a cap zs w h).mono ?_;rintro e w' ⟨v,rfl,⟨b,rfl,ho⟩,hb⟩;obtain ⟨g,c,rfl,_⟩:=ho.row (XA h.1);exact ⟨g,c,rfl,ho,hb⟩
theorem ropen_v (a:Option Addr) (cap n:Nat) (zs:List Int) (w:World) (h:Row w a cap zs) (hn:zs.length=n) (E:Int) (hE:opE zs=E) (P:Pg) (hP:opP zs=P):
  Calls Tryz.prog 197 #[.slice a n cap] w fun e w'=>∃g c,e=.returned (.tuple #[pgV P g c,.int .i64 E])/\Own w.heap.size w' (.slice g P.body.length c) P.body/\Below w.heap.size w w':=by
 subst hn hE hP;refine (ropen_any a cap zs w h).mono ?_;rintro e w' ⟨v,rfl,⟨b,rfl,ho⟩,hb⟩;obtain ⟨g,c,rfl,_⟩:=ho.row (XA h.1);exact ⟨g,c,rfl,ho,hb⟩
theorem seal_v (p:Pg) (ba:Option Addr) (bc:Nat) (w:World) (hr:Row w ba bc p.body) (h1:p.kind<=9223372036854775807) (h2:p.level<=9223372036854775807) (h3:p.count<=9223372036854775807) (E:Int) (hE:sealE p=E) (Z:List Int) (hZ:sealZ p=Z) (n:Nat) (hn:Z.length=n):
  Calls Tryz.prog 143 #[pgV p ba bc] w fun e w'=>∃g c,e=.returned (.tuple #[.slice g n c,.int .i64 E])/\Own w.heap.size w' (.slice g n c) Z/\Below w.heap.size w w':=by
 subst hE hZ hn;refine (seal_any p ba bc w hr h1 h2 h3).mono ?_;rintro e w' ⟨v,rfl,ho,hb⟩;obtain ⟨g,c,rfl,_⟩:=ho.row (sealZ_bys hr.1);exact ⟨g,c,rfl,ho,hb⟩
theorem kW {zs:List Int} (hb:Bys zs) {p n:Nat} (h1:1<=n) (h7:n<=7) (h:p+n<=zs.length):getB zs p n=true:=by
 have:=XT hb p n h7;unfold getB;rw [YX h1 (by omega) h,if_pos rfl,jS,jS];exact (QG (by omega)).2
end Go.Proofs.YtaijfhadecennaaGreat.Oct
