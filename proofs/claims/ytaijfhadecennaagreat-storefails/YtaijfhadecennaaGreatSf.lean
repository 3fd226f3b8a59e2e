/- Part of a proof. -/
import Derived.Test.YtaijfhadecennaaGreatUk
import Derived.Test.YtaijfhadecennaaGreatSe
import Derived.Lib.BitFns
import Derived.Test.YtaijfhadecennaaGreatRi
import Derived.Deep.Slices
import Derived.ChangeSame
import Derived.ProofKit
namespace Go.Proofs.YtaijfhadecennaaGreat.Oct
open Go.RowKit
def ldF (zs:List Int) (n i:Nat):Bool:=!((decide (i<2)&&!bitR zs i)||(decide (n<=i)&&bitR zs i))
def ldOk (zs:List Int) (n:Nat):Bool:=decide (zs.length=(n+7)/8)&&(List.range (zs.length*8)).all (ldF zs n)
def ldE (zs:List Int) (n:Int):Int:=if 8<=n/\n<=4096 then (if ldOk zs n.toNat then 0 else 4) else 1
def ldS (zs:List Int) (n:Nat):List Int:=(List.range n).map fun i=>if bitR zs i then 1 else 0
def ldK (zs:List Int) (n k:Nat):List Int:=(List.range n).map fun i=>if decide (i<2)||(decide (i<k)&&bitR zs i) then 1 else 0
theorem ldK_len (zs:List Int) (n k:Nat):(ldK zs n k).length=n:=by simp [ldK]
theorem XV (zs:List Int) (n:Nat):(ldS zs n).length=n:=by simp [ldS]
theorem ldK_at {zs:List Int} {n k i:Nat} (h:i<n):(ldK zs n k).getD i 0=if decide (i<2)||(decide (i<k)&&bitR zs i) then 1 else 0:=by
 unfold ldK;rw [jA,jC (by simpa using h)];simp
theorem ldS_at {zs:List Int} {n i:Nat} (h:i<n):(ldS zs n).getD i 0=if bitR zs i then 1 else 0:=by
 unfold ldS;rw [jA,jC (by simpa using h)];simp
theorem ldK_zero (zs:List Int) {n:Nat}:ldK zs n 0=newS n:=by
 refine yZ (by rw [ldK_len,JT]) fun i hi=>?_
 rw [ldK_len] at hi;rw [ldK_at hi];unfold newS;rw [jA];by_cases e1:i=1
 ·subst e1;rw [qX (by simp;omega)];rfl
 ·rw [xJ (by omega)];by_cases e0:i=0
  ·subst e0;rw [qX (by simp;omega)];rfl
  ·rw [xJ (by omega),xA,if_pos hi,if_neg (by simp;omega)];rfl
theorem ldS_ok (zs:List Int) {n:Nat} (h8:8<=n) (h4:n<=4096):SpOk (ldS zs n):=⟨by rw [XV];exact h8,by rw [XV];exact h4,fun z hz=>by
 obtain ⟨i,_,rfl⟩:=List.mem_map.1 hz;split<;>omega⟩
theorem bitL_ldS {zs:List Int} {n:Nat} (hb:Bys zs) (h:ldOk zs n=true):bitL (ldS zs n)=zs:=by
 unfold ldOk at h;rw [jO,List.all_eq_true] at h;obtain ⟨h1,h2⟩:=h;have h1:=jZ h1;unfold bitL;rw [XV];refine Eq.trans (zG fun i hi=>?_) (KN hb h1);by_cases e:i<n
 ·rw [ldS_at e];cases bitR zs i<;>rfl
 ·have:=h2 i (List.mem_range.2 (by rw [h1];exact hi));unfold ldF at this;rw [jA,qD (by rw [XV];omega)];cases hb':bitR zs i
  ·rfl
  ·rw [hb'] at this;simp [show n<=i by omega] at this
theorem ldOk_no {zs:List Int} {n k:Nat} (hk:k<zs.length*8) (h:ldF zs n k=false):ldOk zs n=false:=by
 unfold ldOk;rw [Bool.and_eq_false_iff];refine .inr (Bool.eq_false_iff.2 fun e=>?_);have:=List.all_eq_true.1 e k (List.mem_range.2 hk);rw [h] at this;cases this
theorem ldOk_yes {zs:List Int} {n:Nat} (hl:zs.length=(n+7)/8) (h:∀j,j<zs.length*8->ldF zs n j=true):ldOk zs n=true:=by
 unfold ldOk;rw [jE hl,xP];exact List.all_eq_true.2 fun j hj=>h j (List.mem_range.1 hj)
end Go.Proofs.YtaijfhadecennaaGreat.Oct
namespace Go.Proofs.YtaijfhadecennaaGreat.Oct.Sps
open Go.RowKit
def laB (z:Int):Bool:=z==1||z==3
def lasL (S:List Int):List Int:=bitsP (fun i=>laB (S.getD i 0)) S.length
def nzB (z:Int):Bool:=!(z==0)
def tkY (S:List Int) (j:Nat):Int:=byB (fun b=>nzB (S.getD (8*j+b) 0))
theorem or8:∀a b c d e f g h a' b' c' d' e' f' g' h':Bool,bits .or .u8 (by8 a b c d e f g h) (by8 a' b' c' d' e' f' g' h')=by8 (a||a') (b||b') (c||c') (d||d') (e||e') (f||f') (g||g') (h||h'):=by decide+kernel
theorem byB_orB (u v:Nat->Bool):bits .or .u8 (byB u) (byB v)=byB (fun b=>u b||v b):=or8 _ _ _ _ _ _ _ _ _ _ _ _ _ _ _ _
theorem an8_0:∀a b c d e f g h:Bool,bits .andNot .u8 (by8 a b c d e f g h) 1=by8 false b c d e f g h:=by decide+kernel
theorem an8_1:∀a b c d e f g h:Bool,bits .andNot .u8 (by8 a b c d e f g h) 2=by8 a false c d e f g h:=by decide+kernel
theorem an8_2:∀a b c d e f g h:Bool,bits .andNot .u8 (by8 a b c d e f g h) 4=by8 a b false d e f g h:=by decide+kernel
theorem an8_3:∀a b c d e f g h:Bool,bits .andNot .u8 (by8 a b c d e f g h) 8=by8 a b c false e f g h:=by decide+kernel
theorem an8_4:∀a b c d e f g h:Bool,bits .andNot .u8 (by8 a b c d e f g h) 16=by8 a b c d false f g h:=by decide+kernel
theorem an8_5:∀a b c d e f g h:Bool,bits .andNot .u8 (by8 a b c d e f g h) 32=by8 a b c d e false g h:=by decide+kernel
theorem an8_6:∀a b c d e f g h:Bool,bits .andNot .u8 (by8 a b c d e f g h) 64=by8 a b c d e f false h:=by decide+kernel
theorem an8_7:∀a b c d e f g h:Bool,bits .andNot .u8 (by8 a b c d e f g h) 128=by8 a b c d e f g false:=by decide+kernel
theorem byB_an (u v:Nat->Bool) (b:Nat) (hb:b<8) (hv:v b=false) (h:∀x,x≠b->v x=u x):bits .andNot .u8 (byB u) (2^b%256)=byB v:=by
 unfold byB
 match b,hb with
 |0,_=>rw [h 1 (by omega),h 2 (by omega),h 3 (by omega),h 4 (by omega),h 5 (by omega),h 6 (by omega),h 7 (by omega),hv];exact an8_0 _ _ _ _ _ _ _ _
 |1,_=>rw [h 0 (by omega),h 2 (by omega),h 3 (by omega),h 4 (by omega),h 5 (by omega),h 6 (by omega),h 7 (by omega),hv];exact an8_1 _ _ _ _ _ _ _ _
 |2,_=>rw [h 0 (by omega),h 1 (by omega),h 3 (by omega),h 4 (by omega),h 5 (by omega),h 6 (by omega),h 7 (by omega),hv];exact an8_2 _ _ _ _ _ _ _ _
 |3,_=>rw [h 0 (by omega),h 1 (by omega),h 2 (by omega),h 4 (by omega),h 5 (by omega),h 6 (by omega),h 7 (by omega),hv];exact an8_3 _ _ _ _ _ _ _ _
 |4,_=>rw [h 0 (by omega),h 1 (by omega),h 2 (by omega),h 3 (by omega),h 5 (by omega),h 6 (by omega),h 7 (by omega),hv];exact an8_4 _ _ _ _ _ _ _ _
 |5,_=>rw [h 0 (by omega),h 1 (by omega),h 2 (by omega),h 3 (by omega),h 4 (by omega),h 6 (by omega),h 7 (by omega),hv];exact an8_5 _ _ _ _ _ _ _ _
 |6,_=>rw [h 0 (by omega),h 1 (by omega),h 2 (by omega),h 3 (by omega),h 4 (by omega),h 5 (by omega),h 7 (by omega),hv];exact an8_6 _ _ _ _ _ _ _ _
 |7,_=>rw [h 0 (by omega),h 1 (by omega),h 2 (by omega),h 3 (by omega),h 4 (by omega),h 5 (by omega),h 6 (by omega),hv];exact an8_7 _ _ _ _ _ _ _ _
theorem bitsP_an {u v:Nat->Bool} {n k:Nat} (hk:k<n) (hv:v k=false) (h:∀i,i≠k->v i=u i):(bitsP u n).set (k/8) (bits .andNot .u8 ((bitsP u n).getD (k/8) 0) (2^(k%8)%256))=bitsP v n:=by
 have hj:k/8<(n+7)/8:=by omega
 rw [JE hj,byB_an _ (fun b=>v (8*(k/8)+b)) (k%8) (by omega) (by show v _=false;rw [show 8*(k/8)+k%8=k by omega];exact hv) (fun x hx=>h _ (by omega))];refine yZ (by rw [jY,yY,yY]) fun i hi=>?_
 rw [jY,yY] at hi;rw [JE hi];by_cases e:i=k/8
 ·subst e;rw [jA,qX (by rw [yY];exact hi),qJ]
 ·rw [jA,xJ (by omega),<-jA,JE hi];exact uW fun b hb=>(h _ (by omega)).symm
theorem or_st {z:Int} (h:0<=z/\z<=3):(laB z||usB z)=nzB z:=by
 have:z=0\/z=1\/z=2\/z=3:=by omega
 rcases this with rfl|rfl|rfl|rfl<;>rfl
theorem tk_or {S:List Int} (h:SpOk S) {j:Nat} (hj:j<(S.length+7)/8):bits .or .u8 ((lasL S).getD j 0) ((bitL S).getD j 0)=tkY S j:=by
 unfold lasL bitL;rw [JE hj,JE hj,byB_orB];exact uW fun b _=>or_st (h.at _)
theorem zJ (S:List Int):(lasL S).length=(S.length+7)/8:=yY _ _
theorem bitL_len (S:List Int):(bitL S).length=(S.length+7)/8:=yY _ _
theorem kN (S:List Int):Bys (lasL S):=zZ _ _
theorem bitL_bys (S:List Int):Bys (bitL S):=zZ _ _
theorem XN (S:List Int) (k i:Nat) (z:Int) (hk:k<S.length):(S.set k z).getD i 0=if i=k then z else S.getD i 0:=by
 rw [jA,jA];by_cases e:i=k
 ·subst e;rw [qX hk,if_pos rfl];rfl
 ·rw [xJ (fun h=>e h.symm),if_neg e]
theorem getD_map0 {f:Int->Int} (hf:f 0=0) (S:List Int) (i:Nat):(S.map f).getD i 0=f (S.getD i 0):=by
 rw [jA,jA,qH];cases S[i]? with
 |none=>exact hf.symm
 |some z=>rfl
theorem trZ0 (o p:Int):trZ o p 0=0:=by unfold trZ;rw [if_neg (by omega),if_neg (by omega)]
theorem trS_at (o p:Int) (S:List Int) (i:Nat):(trS o p S).getD i 0=trZ o p (S.getD i 0):=getD_map0 (trZ0 o p) S i
theorem bitL_take {S:List Int} {k:Nat} (hk:k<S.length):bitL (S.set k 2)=(bitL S).set (k/8) (bits .or .u8 ((bitL S).getD (k/8) 0) (2^(k%8)%256)):=by
 unfold bitL;rw [jY];refine (YP hk ?_ fun i hi=>?_).symm
 ·show usB _=true;rw [XN _ _ _ _ hk,if_pos rfl];rfl
 ·show usB _=usB _;rw [XN _ _ _ _ hk,if_neg hi]
theorem lasL_set {S:List Int} {k:Nat} (hk:k<S.length) {z:Int} (h:laB z=laB (S.getD k 0)):lasL (S.set k z)=lasL S:=by
 unfold lasL;rw [jY];refine zG fun i _=>?_
 rw [XN _ _ _ _ hk];split
 ·rename_i e;rw [e];exact h
 ·rfl
theorem bitL_drop {S:List Int} {k:Nat} (hk:k<S.length) {z:Int} (hz:usB z=false):bitL (S.set k z)=(bitL S).set (k/8) (bits .andNot .u8 ((bitL S).getD (k/8) 0) (2^(k%8)%256)):=by
 unfold bitL;rw [jY];refine (bitsP_an hk ?_ fun i hi=>?_).symm
 ·show usB _=false;rw [XN _ _ _ _ hk,if_pos rfl];exact hz
 ·show usB _=usB _;rw [XN _ _ _ _ hk,if_neg hi]
theorem gZ {S:List Int} (h:SpOk S) {o p:Int} {f g:Int->Bool} (hz:∀z,z=0\/z=1\/z=2\/z=3->f (trZ o p z)=g z):bitsP (fun i=>f ((trS o p S).getD i 0)) (trS o p S).length=bitsP (fun i=>g (S.getD i 0)) S.length:=by
 rw [JR];refine zG fun i _=>?_
 rw [trS_at];have:=h.at i;exact hz _ (by omega)
theorem commit_las {S:List Int} (h:SpOk S):lasL (trS 1 0 S)=bitL S:=gZ h (by rintro z (rfl|rfl|rfl|rfl)<;>rfl)
theorem commit_bit {S:List Int} (h:SpOk S):bitL (trS 1 0 S)=bitL S:=gZ h (by rintro z (rfl|rfl|rfl|rfl)<;>rfl)
theorem doubt_bit {S:List Int} (h:SpOk S):bitL (trS 1 3 S)=bitL S:=gZ h (by rintro z (rfl|rfl|rfl|rfl)<;>rfl)
theorem doubt_las {S:List Int} (h:SpOk S):lasL (trS 1 3 S)=bitsP (fun i=>nzB (S.getD i 0)) S.length:=gZ h (by rintro z (rfl|rfl|rfl|rfl)<;>rfl)
def orK (S:List Int) (k:Nat):List Int:=(lasL (trS 1 3 S)).take k++(lasL S).drop k
theorem orK_len (S:List Int) (k:Nat):(orK S k).length=(S.length+7)/8:=by
 unfold orK;rw [jN,qG,qC,zJ,zJ,JR];omega
theorem orK_at {S:List Int} {k:Nat} (h:k<(S.length+7)/8):(orK S k).getD k 0=(lasL S).getD k 0:=by
 unfold orK;have hl:((lasL (trS 1 3 S)).take k).length=k:=by rw [qG,zJ,JR];omega
 rw [QM,if_neg (by omega),hl,Nat.sub_self,jA,qO,Nat.add_zero,<-jA]
theorem orK_succ {S:List Int} (hS:SpOk S) {k:Nat} (h:k<(S.length+7)/8):orK S (k+1)=(orK S k).set k (bits .or .u8 ((lasL S).getD k 0) ((bitL S).getD k 0)):=by
 rw [tk_or hS h];unfold orK;have hl:((lasL (trS 1 3 S)).take k).length=k:=by rw [qG,zJ,JR];omega
 have hk:k<(lasL S).length:=by rw [zJ];exact h
 have hk':k<(lasL (trS 1 3 S)).length:=by rw [zJ,JR];exact h
 have e:(lasL (trS 1 3 S)).getD k 0=tkY S k:=by rw [doubt_las hS,JE h];rfl
 rw [xH _ _ (by omega),hl,Nat.sub_self,xY hk,jL,vD _ k hk',e];simp
theorem orK_zero (S:List Int):orK S 0=lasL S:=by simp [orK]
theorem orK_all (S:List Int):orK S ((S.length+7)/8)=lasL (trS 1 3 S):=by
 unfold orK;rw [qR (by rw [zJ,JR];omega),List.drop_eq_nil_of_le (by rw [zJ];omega),xW]
theorem ones8:∀a b c d e f g h:Bool,(Lib.onesCount (by8 a b c d e f g h).toNat:Int)=(if a then 1 else 0)+(if b then 1 else 0)+(if c then 1 else 0)+(if d then 1 else 0)+(if e then 1 else 0)+(if f then 1 else 0)+(if g then 1 else 0)+(if h then 1 else 0):=by decide+kernel
def nzC (S:List Int):Nat->Int
 |0=>0
 |k+1=>nzC S k+(if nzB (S.getD k 0) then 1 else 0)
theorem nzC_ge (S:List Int):∀k,S.length<=k->nzC S k=nzC S S.length:=by
 intro k hk;obtain ⟨d,rfl⟩:=Nat.le.dest hk;clear hk
 induction d with
 |zero=>rfl
 |succ d ih=>rw [<-yJ,nzC,ih,jA,qD (by omega)];simp [nzB]
theorem nzC_in (S:List Int):∀k,0<=nzC S k/\nzC S k<=k:=by
 intro k
 induction k with
 |zero=>simp [nzC]
 |succ k ih=>unfold nzC;split<;>omega
theorem nzC_8 (S:List Int) (j:Nat):nzC S (8*(j+1))=nzC S (8*j)+(Lib.onesCount (tkY S j).toNat:Int):=by
 unfold tkY byB;rw [ones8,show 8*(j+1)=8*j+1+1+1+1+1+1+1+1 by omega];simp only [nzC,Nat.add_zero];omega
theorem nzC_all (S:List Int):(S.length:Int)-nzC S S.length=S.count 0:=by
 have:∀k,k<=S.length->(k:Int)-nzC S k=(S.take k).count 0:=by
  intro k
  induction k with
  |zero=>intro _;simp [nzC]
  |succ k ih=>
   intro h;have:=ih (by omega);rw [vD S k (by omega),List.count_append,nzC];by_cases e:S.getD k 0=0
   ·rw [e];simp [nzB];omega
   ·have e':(S.getD k 0==0)=false:=by simpa using e
    have e2:[S.getD k 0].count 0=0:=by simp only [List.count_cons,List.count_nil,e'];rfl
    rw [e2];unfold nzB;rw [e'];simp;omega
 have h:=this S.length (jB _)
 rwa [List.take_length] at h
theorem ntz_at:∀z:Fin 255,Lib.trailingZeros8 (255-(z.val:Int)).toNat<8/\bitZ (z.val:Int) (Lib.trailingZeros8 (255-(z.val:Int)).toNat)=false/\∀b,b<Lib.trailingZeros8 (255-(z.val:Int)).toNat->bitZ (z.val:Int) b=true:=by decide+kernel
theorem all_at:∀b,b<8->bitZ 255 b=true:=by decide+kernel
theorem ntz_byB {u:Nat->Bool} (h:byB u≠255):∃t:Nat,Lib.trailingZeros8 (255-byB u).toNat=t/\t<8/\u t=false/\∀b,b<t->u b=true:=by
 obtain ⟨h0,h1⟩:=GR u;obtain ⟨n,hn⟩:=jW h0;have hz:=ntz_at ⟨n,by omega⟩;simp only at hz;rw [<-hn] at hz;refine ⟨_,rfl,hz.1,?_,fun b hb=>?_⟩
 ·rw [<-uX u _ hz.1];exact hz.2.1
 ·rw [<-uX u _ (by omega)];exact hz.2.2 b hb
theorem all_byB {u:Nat->Bool} (h:byB u=255) (b:Nat) (hb:b<8):u b=true:=by
 rw [<-uX u b hb,h];exact all_at b hb
def LeS (S:List Int) (m:Nat):Prop:=(frI S<S.length->m=frI S)/\(¬frI S<S.length->S.length<=m)/\m<=100000
theorem nz_iff {z:Int}:nzB z=true↔z≠0:=by unfold nzB;simp
theorem nz_no {z:Int}:nzB z=false↔z=0:=by unfold nzB;simp
theorem LeS.found {S:List Int} (hS:SpOk S) {j t:Nat} (hj:j<(S.length+7)/8) (ht:t<8) (h0:nzB (S.getD (8*j+t) 0)=false) (hb:∀b,b<t->nzB (S.getD (8*j+b) 0)=true) (hk:∀i,i<8*j->S.getD i 0≠0):LeS S (8*j+t):=by
 have hall:∀i,i<8*j+t->S.getD i 0≠0:=fun i hi=>by
  by_cases e:i<8*j
  ·exact hk i e
  ·have:=nz_iff.1 (hb (i-8*j) (by omega))
   rwa [show 8*j+(i-8*j)=i by omega] at this
 have hhi:=hS.hi;by_cases e:8*j+t<S.length
 ·have:=frI_eq e (nz_no.1 h0) hall;exact ⟨fun _=>this.symm,fun h=>by omega,by omega⟩
 ·have:=frI_none (S:=S) (fun i hi=>hall i (by omega));exact ⟨fun h=>by omega,fun _=>by omega,by omega⟩
theorem LeS.none {S:List Int} (hS:SpOk S) (hk:∀i,i<8*((S.length+7)/8)->S.getD i 0≠0):LeS S S.length:=by
 have hhi:=hS.hi;have:=frI_none (S:=S) (fun i hi=>hk i (by omega));exact ⟨fun h=>by omega,fun _=>jB _,by omega⟩
end Go.Proofs.YtaijfhadecennaaGreat.Oct.Sps
namespace Go.Proofs.YtaijfhadecennaaGreat.Oct
open Go.RowKit Go.ChangeShapes Go.WideShapes
def inB (S:List Int) (p:Int):Bool:=decide (0<=p)&&decide (p<(S.length:Int))
def LdS (Sp:World->Nat->(Nat->Prop)->List Int->Prop) (w:World) (zs:List Int) (n:Int) (e:Ending) (w':World):Prop:=
 Below w.heap.size w w'/\((ldE zs n≠0/\e=.returned (.tuple #[.pointer none,.int .i64 (ldE zs n)]))\/(ldE zs n=0/\∃s F,e=.returned (.tuple #[.pointer (some ⟨s,0,none⟩),.int .i64 0])/\Sp w' s F (ldS zs n.toNat)/\∀k,F k->w.heap.size<=k))
structure D2 where
 do':Int
 page:Int
end Go.Proofs.YtaijfhadecennaaGreat.Oct
