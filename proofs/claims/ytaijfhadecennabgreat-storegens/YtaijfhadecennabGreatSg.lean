/- Part of a proof. -/
import Derived.Test.YtaijfhadecennabGreatStg
import Derived.Lib.BitFns
import Derived.Test.YtaijfhadecennabGreatZo
import Derived.Deep.Slices
import Derived.ChangeSame
import Derived.ProofKit
import Derived.Test.YtaijfhadecennabGreatRn
import Derived.Deep.RegionHeld3
import Derived.Lib.SliceRun
import Derived.StillTailTactics
open Go.Proofs.Tryz
namespace Go.Proofs.YtaijfhadecennabGreat.Oct
open Go.RowKit
theorem ldOk_no {zs:List Int} {n k:Nat} (hk:k<zs.length*8) (h:ldF zs n k=false):ldOk zs n=false:=by
 unfold ldOk;rw [Bool.and_eq_false_iff];refine .inr (Bool.eq_false_iff.2 fun e=>?_);have:=List.all_eq_true.1 e k (List.mem_range.2 hk);rw [h] at this;cases this
theorem ldOk_yes {zs:List Int} {n:Nat} (hl:zs.length=(n+7)/8) (h:∀j,j<zs.length*8->ldF zs n j=true):ldOk zs n=true:=by
 unfold ldOk;rw [jF hl,yE];exact List.all_eq_true.2 fun j hj=>h j (List.mem_range.1 hj)
end Go.Proofs.YtaijfhadecennabGreat.Oct
namespace Go.Proofs.YtaijfhadecennabGreat.Oct.Sps
open Go.RowKit
def laB (z:Int):Bool:=z==1||z==3
def lasL (S:List Int):List Int:=bitsP (fun i=>laB (S.getD i 0)) S.length
def nzB (z:Int):Bool:=!(z==0)
def tkY (S:List Int) (j:Nat):Int:=byB (fun b=>nzB (S.getD (8*j+b) 0))
theorem or8:∀a b c d e f g h a' b' c' d' e' f' g' h':Bool,bits .or .u8 (by8 a b c d e f g h) (by8 a' b' c' d' e' f' g' h')=by8 (a||a') (b||b') (c||c') (d||d') (e||e') (f||f') (g||g') (h||h'):=by decide+kernel
theorem byB_orB (u v:Nat->Bool):bits .or .u8 (byB u) (byB v)=byB (fun b=>u b||v b):=or8 _ _ _ _ _ _ _ _ _ _ _ _ _ _ _ _
theorem an8_0:∀a b c d e f g h:Bool,bits .andNot .u8 (by8 a b c d e f g h) 1=by8 false b c d e f g h:=by decide+kernel
theorem an8_1:∀a b c d e f g h:Bool,bits .andNot .u8 (by8 a b c d e f g h) 2=by8 a false c d e f g h:=by decide+kernel
theorem an8_2:∀a b c d e f g h:Bool,bits .andNot .u8 (by8 a b c d e f g h) 4=by8 a b false d e f g h:=by decide+kernel
theorem an8_3:∀a b c d e f g h:Bool,bits .andNot .u8 (by8 a b c d e f g h) 8=by8 a b c false e f g h:=by decide+kernel
theorem an8_4:∀a b c d e f g h:Bool,bits .andNot .u8 (by8 a b c d e f g h) 16=by8 a b c d false f g h:=by decide+kernel
theorem an8_5:∀a b c d e f g h:Bool,bits .andNot .u8 (by8 a b c d e f g h) 32=by8 a b c d e false g h:=by decide+kernel
theorem an8_6:∀a b c d e f g h:Bool,bits .andNot .u8 (by8 a b c d e f g h) 64=by8 a b c d e f false h:=by decide+kernel
theorem an8_7:∀a b c d e f g h:Bool,bits .andNot .u8 (by8 a b c d e f g h) 128=by8 a b c d e f g false:=by decide+kernel
theorem byB_an (u v:Nat->Bool) (b:Nat) (hb:b<8) (hv:v b=false) (h:∀x,x≠b->v x=u x):bits .andNot .u8 (byB u) (2^b%256)=byB v:=by
 unfold byB
 match b,hb with
 |0,_=>rw [h 1 (by omega),h 2 (by omega),h 3 (by omega),h 4 (by omega),h 5 (by omega),h 6 (by omega),h 7 (by omega),hv];exact an8_0 _ _ _ _ _ _ _ _
 |1,_=>rw [h 0 (by omega),h 2 (by omega),h 3 (by omega),h 4 (by omega),h 5 (by omega),h 6 (by omega),h 7 (by omega),hv];exact an8_1 _ _ _ _ _ _ _ _
 |2,_=>rw [h 0 (by omega),h 1 (by omega),h 3 (by omega),h 4 (by omega),h 5 (by omega),h 6 (by omega),h 7 (by omega),hv];exact an8_2 _ _ _ _ _ _ _ _
 |3,_=>rw [h 0 (by omega),h 1 (by omega),h 2 (by omega),h 4 (by omega),h 5 (by omega),h 6 (by omega),h 7 (by omega),hv];exact an8_3 _ _ _ _ _ _ _ _
 |4,_=>rw [h 0 (by omega),h 1 (by omega),h 2 (by omega),h 3 (by omega),h 5 (by omega),h 6 (by omega),h 7 (by omega),hv];exact an8_4 _ _ _ _ _ _ _ _
 |5,_=>rw [h 0 (by omega),h 1 (by omega),h 2 (by omega),h 3 (by omega),h 4 (by omega),h 6 (by omega),h 7 (by omega),hv];exact an8_5 _ _ _ _ _ _ _ _
 |6,_=>rw [h 0 (by omega),h 1 (by omega),h 2 (by omega),h 3 (by omega),h 4 (by omega),h 5 (by omega),h 7 (by omega),hv];exact an8_6 _ _ _ _ _ _ _ _
 |7,_=>rw [h 0 (by omega),h 1 (by omega),h 2 (by omega),h 3 (by omega),h 4 (by omega),h 5 (by omega),h 6 (by omega),hv];exact an8_7 _ _ _ _ _ _ _ _
theorem bitsP_an {u v:Nat->Bool} {n k:Nat} (hk:k<n) (hv:v k=false) (h:∀i,i≠k->v i=u i):(bitsP u n).set (k/8) (bits .andNot .u8 ((bitsP u n).getD (k/8) 0) (2^(k%8)%256))=bitsP v n:=by
 have hj:k/8<(n+7)/8:=by omega
 rw [zT hj,byB_an _ (fun b=>v (8*(k/8)+b)) (k%8) (by omega) (by show v _=false;rw [show 8*(k/8)+k%8=k by omega];exact hv) (fun x hx=>h _ (by omega))];refine yV (by rw [qC,yT,yT]) fun i hi=>?_
 rw [qC,yT] at hi;rw [zT hi];by_cases e:i=k/8
 ·subst e;rw [jA,qT (by rw [yT];exact hi),qG]
 ·rw [jA,xG (by omega),<-jA,zT hi];exact ZW fun b hb=>(h _ (by omega)).symm
theorem or_st {z:Int} (h:0<=z/\z<=3):(laB z||usB z)=nzB z:=by
 have:z=0\/z=1\/z=2\/z=3:=by omega
 rcases this with rfl|rfl|rfl|rfl<;>rfl
theorem tk_or {S:List Int} (h:SpOk S) {j:Nat} (hj:j<(S.length+7)/8):bits .or .u8 ((lasL S).getD j 0) ((bitL S).getD j 0)=tkY S j:=by
 unfold lasL bitL;rw [zT hj,zT hj,byB_orB];exact ZW fun b _=>or_st (h.at _)
theorem zB (S:List Int):(lasL S).length=(S.length+7)/8:=yT _ _
theorem bitL_len (S:List Int):(bitL S).length=(S.length+7)/8:=yT _ _
theorem VG (S:List Int):Bys (lasL S):=zP _ _
theorem bitL_bys (S:List Int):Bys (bitL S):=zP _ _
theorem QW (S:List Int) (k i:Nat) (z:Int) (hk:k<S.length):(S.set k z).getD i 0=if i=k then z else S.getD i 0:=by
 rw [jA,jA];by_cases e:i=k
 ·subst e;rw [qT hk,if_pos rfl];rfl
 ·rw [xG (fun h=>e h.symm),if_neg e]
theorem getD_map0 {f:Int->Int} (hf:f 0=0) (S:List Int) (i:Nat):(S.map f).getD i 0=f (S.getD i 0):=by
 rw [jA,jA,qN];cases S[i]? with
 |none=>exact hf.symm
 |some z=>rfl
theorem trZ0 (o p:Int):trZ o p 0=0:=by unfold trZ;rw [if_neg (by omega),if_neg (by omega)]
theorem trS_at (o p:Int) (S:List Int) (i:Nat):(trS o p S).getD i 0=trZ o p (S.getD i 0):=getD_map0 (trZ0 o p) S i
theorem bitL_take {S:List Int} {k:Nat} (hk:k<S.length):bitL (S.set k 2)=(bitL S).set (k/8) (bits .or .u8 ((bitL S).getD (k/8) 0) (2^(k%8)%256)):=by
 unfold bitL;rw [qC];refine (XV hk ?_ fun i hi=>?_).symm
 ·show usB _=true;rw [QW _ _ _ _ hk,if_pos rfl];rfl
 ·show usB _=usB _;rw [QW _ _ _ _ hk,if_neg hi]
theorem GI {S:List Int} {k:Nat} (hk:k<S.length) {z:Int} (h:laB z=laB (S.getD k 0)):lasL (S.set k z)=lasL S:=by
 unfold lasL;rw [qC];refine zA fun i _=>?_
 rw [QW _ _ _ _ hk];split
 ·rename_i e;rw [e];exact h
 ·rfl
theorem bitL_drop {S:List Int} {k:Nat} (hk:k<S.length) {z:Int} (hz:usB z=false):bitL (S.set k z)=(bitL S).set (k/8) (bits .andNot .u8 ((bitL S).getD (k/8) 0) (2^(k%8)%256)):=by
 unfold bitL;rw [qC];refine (bitsP_an hk ?_ fun i hi=>?_).symm
 ·show usB _=false;rw [QW _ _ _ _ hk,if_pos rfl];exact hz
 ·show usB _=usB _;rw [QW _ _ _ _ hk,if_neg hi]
theorem fV {S:List Int} (h:SpOk S) {o p:Int} {f g:Int->Bool} (hz:∀z,z=0\/z=1\/z=2\/z=3->f (trZ o p z)=g z):bitsP (fun i=>f ((trS o p S).getD i 0)) (trS o p S).length=bitsP (fun i=>g (S.getD i 0)) S.length:=by
 rw [JB];refine zA fun i _=>?_
 rw [trS_at];have:=h.at i;exact hz _ (by omega)
theorem commit_las {S:List Int} (h:SpOk S):lasL (trS 1 0 S)=bitL S:=fV h (by rintro z (rfl|rfl|rfl|rfl)<;>rfl)
theorem commit_bit {S:List Int} (h:SpOk S):bitL (trS 1 0 S)=bitL S:=fV h (by rintro z (rfl|rfl|rfl|rfl)<;>rfl)
theorem doubt_bit {S:List Int} (h:SpOk S):bitL (trS 1 3 S)=bitL S:=fV h (by rintro z (rfl|rfl|rfl|rfl)<;>rfl)
theorem doubt_las {S:List Int} (h:SpOk S):lasL (trS 1 3 S)=bitsP (fun i=>nzB (S.getD i 0)) S.length:=fV h (by rintro z (rfl|rfl|rfl|rfl)<;>rfl)
def orK (S:List Int) (k:Nat):List Int:=(lasL (trS 1 3 S)).take k++(lasL S).drop k
theorem orK_len (S:List Int) (k:Nat):(orK S k).length=(S.length+7)/8:=by
 unfold orK;rw [jO,qJ,qE,zB,zB,JB];omega
theorem orK_at {S:List Int} {k:Nat} (h:k<(S.length+7)/8):(orK S k).getD k 0=(lasL S).getD k 0:=by
 unfold orK;have hl:((lasL (trS 1 3 S)).take k).length=k:=by rw [qJ,zB,JB];omega
 rw [QG,if_neg (by omega),hl,Nat.sub_self,jA,qY,Nat.add_zero,<-jA]
theorem orK_succ {S:List Int} (hS:SpOk S) {k:Nat} (h:k<(S.length+7)/8):orK S (k+1)=(orK S k).set k (bits .or .u8 ((lasL S).getD k 0) ((bitL S).getD k 0)):=by
 rw [tk_or hS h];unfold orK;have hl:((lasL (trS 1 3 S)).take k).length=k:=by rw [qJ,zB,JB];omega
 have hk:k<(lasL S).length:=by rw [zB];exact h
 have hk':k<(lasL (trS 1 3 S)).length:=by rw [zB,JB];exact h
 have e:(lasL (trS 1 3 S)).getD k 0=tkY S k:=by rw [doubt_las hS,zT h];rfl
 rw [xD _ _ (by omega),hl,Nat.sub_self,xS hk,jK,kN _ k hk',e];simp
theorem orK_zero (S:List Int):orK S 0=lasL S:=by simp [orK]
theorem orK_all (S:List Int):orK S ((S.length+7)/8)=lasL (trS 1 3 S):=by
 unfold orK;rw [qP (by rw [zB,JB];omega),List.drop_eq_nil_of_le (by rw [zB];omega),xZ]
theorem ones8:∀a b c d e f g h:Bool,(Lib.onesCount (by8 a b c d e f g h).toNat:Int)=(if a then 1 else 0)+(if b then 1 else 0)+(if c then 1 else 0)+(if d then 1 else 0)+(if e then 1 else 0)+(if f then 1 else 0)+(if g then 1 else 0)+(if h then 1 else 0):=by decide+kernel
def nzC (S:List Int):Nat->Int
 |0=>0
 |k+1=>nzC S k+(if nzB (S.getD k 0) then 1 else 0)
theorem nzC_ge (S:List Int):∀k,S.length<=k->nzC S k=nzC S S.length:=by
 intro k hk;obtain ⟨d,rfl⟩:=Nat.le.dest hk;clear hk
 induction d with
 |zero=>rfl
 |succ d ih=>rw [<-yJ,nzC,ih,jA,jX (by omega)];simp [nzB]
theorem nzC_in (S:List Int):∀k,0<=nzC S k/\nzC S k<=k:=by
 intro k
 induction k with
 |zero=>simp [nzC]
 |succ k ih=>unfold nzC;split<;>omega
theorem nzC_8 (S:List Int) (j:Nat):nzC S (8*(j+1))=nzC S (8*j)+(Lib.onesCount (tkY S j).toNat:Int):=by
 unfold tkY byB;rw [ones8,show 8*(j+1)=8*j+1+1+1+1+1+1+1+1 by omega];simp only [nzC,Nat.add_zero];omega
theorem nzC_all (S:List Int):(S.length:Int)-nzC S S.length=S.count 0:=by
 have:∀k,k<=S.length->(k:Int)-nzC S k=(S.take k).count 0:=by
  intro k
  induction k with
  |zero=>intro _;simp [nzC]
  |succ k ih=>
   intro h;have:=ih (by omega);rw [kN S k (by omega),List.count_append,nzC];by_cases e:S.getD k 0=0
   ·rw [e];simp [nzB];omega
   ·have e':(S.getD k 0==0)=false:=by simpa using e
    have e2:[S.getD k 0].count 0=0:=by simp only [List.count_cons,List.count_nil,e'];rfl
    rw [e2];unfold nzB;rw [e'];simp;omega
 have h:=this S.length (jB _)
 rwa [List.take_length] at h
theorem ntz_at:∀z:Fin 255,Lib.trailingZeros8 (255-(z.val:Int)).toNat<8/\bitZ (z.val:Int) (Lib.trailingZeros8 (255-(z.val:Int)).toNat)=false/\∀b,b<Lib.trailingZeros8 (255-(z.val:Int)).toNat->bitZ (z.val:Int) b=true:=by decide+kernel
theorem all_at:∀b,b<8->bitZ 255 b=true:=by decide+kernel
theorem ntz_byB {u:Nat->Bool} (h:byB u≠255):∃t:Nat,Lib.trailingZeros8 (255-byB u).toNat=t/\t<8/\u t=false/\∀b,b<t->u b=true:=by
 obtain ⟨h0,h1⟩:=FP u;obtain ⟨n,hn⟩:=qB h0;have hz:=ntz_at ⟨n,by omega⟩;simp only at hz;rw [<-hn] at hz;refine ⟨_,rfl,hz.1,?_,fun b hb=>?_⟩
 ·rw [<-ZX u _ hz.1];exact hz.2.1
 ·rw [<-ZX u _ (by omega)];exact hz.2.2 b hb
theorem all_byB {u:Nat->Bool} (h:byB u=255) (b:Nat) (hb:b<8):u b=true:=by
 rw [<-ZX u b hb,h];exact all_at b hb
def LeS (S:List Int) (m:Nat):Prop:=(frI S<S.length->m=frI S)/\(¬frI S<S.length->S.length<=m)/\m<=100000
theorem nz_iff {z:Int}:nzB z=true↔z≠0:=by unfold nzB;simp
theorem nz_no {z:Int}:nzB z=false↔z=0:=by unfold nzB;simp
theorem LeS.found {S:List Int} (hS:SpOk S) {j t:Nat} (hj:j<(S.length+7)/8) (ht:t<8) (h0:nzB (S.getD (8*j+t) 0)=false) (hb:∀b,b<t->nzB (S.getD (8*j+b) 0)=true) (hk:∀i,i<8*j->S.getD i 0≠0):LeS S (8*j+t):=by
 have hall:∀i,i<8*j+t->S.getD i 0≠0:=fun i hi=>by
  by_cases e:i<8*j
  ·exact hk i e
  ·have:=nz_iff.1 (hb (i-8*j) (by omega))
   rwa [show 8*j+(i-8*j)=i by omega] at this
 have hhi:=hS.hi;by_cases e:8*j+t<S.length
 ·have:=frI_eq e (nz_no.1 h0) hall;exact ⟨fun _=>this.symm,fun h=>by omega,by omega⟩
 ·have:=GM (S:=S) (fun i hi=>hall i (by omega));exact ⟨fun h=>by omega,fun _=>by omega,by omega⟩
theorem LeS.none {S:List Int} (hS:SpOk S) (hk:∀i,i<8*((S.length+7)/8)->S.getD i 0≠0):LeS S S.length:=by
 have hhi:=hS.hi;have:=GM (S:=S) (fun i hi=>hk i (by omega));exact ⟨fun h=>by omega,fun _=>jB _,by omega⟩
end Go.Proofs.YtaijfhadecennabGreat.Oct.Sps
namespace Go.Proofs.YtaijfhadecennabGreat.Oct
open Go.RowKit Go.ChangeShapes Go.WideShapes
def inB (S:List Int) (p:Int):Bool:=decide (0<=p)&&decide (p<(S.length:Int))
def LdS (Sp:World->Nat->(Nat->Prop)->List Int->Prop) (w:World) (zs:List Int) (n:Int) (e:Ending) (w':World):Prop:=
 Below w.heap.size w w'/\((ldE zs n≠0/\e=.returned (.tuple #[.pointer none,.int .i64 (ldE zs n)]))\/(ldE zs n=0/\∃s F,e=.returned (.tuple #[.pointer (some ⟨s,0,none⟩),.int .i64 0])/\Sp w' s F (ldS zs n.toNat)/\∀k,F k->w.heap.size<=k))
structure D2 where
 do':Int
 page:Int
end Go.Proofs.YtaijfhadecennabGreat.Oct
namespace Go.Proofs.YtaijfhadecennabGreat.Oct.Sps
open Go.RowKit
structure SpX (w:World) (s a ca b cb:Nat) (F:Nat->Prop) (S:List Int):Prop where
 lt:∀k,F k->k<w.heap.size
 fs:F s
 fa:F a
 fb:F b
 ok:SpOk S
 cells:w.heap[s]?=some (.cells #[.int .i64 S.length,.slice (some ⟨a,0,none⟩) ((S.length+7)/8) ca,.slice (some ⟨b,0,none⟩) ((S.length+7)/8) cb] 151 (0,0))
 last:Own 0 w (.slice (some ⟨a,0,none⟩) ((S.length+7)/8) ca) (lasL S)
 next:Own 0 w (.slice (some ⟨b,0,none⟩) ((S.length+7)/8) cb) (bitL S)
 sa:¬s=a
 sb:¬s=b
 ab:¬a=b
def Spa (w:World) (s:Nat) (F:Nat->Prop) (S:List Int):Prop:=∃a ca b cb,SpX w s a ca b cb F S
section
variable {w w':World} {s a ca b cb:Nat} {F:Nat->Prop} {S:List Int}
theorem SpX.keep (h:SpX w s a ca b cb F S) (hs:w.heap.size<=w'.heap.size) (k:∀g,F g->w'.heap[g]?=w.heap[g]?):SpX w' s a ca b cb F S:=
 {h with lt:=fun g hg=>jV (h.lt g hg) hs,cells:=(k s h.fs).trans h.cells,last:=h.last.kept (k a h.fa),next:=h.next.kept (k b h.fb)}
theorem SpX.ch {G:Nat->Prop} (h:SpX w s a ca b cb F S) (hc:Ch w.heap.size G w w') (hd:∀k,F k->¬G k):SpX w' s a ca b cb F S:=
 h.keep hc.size (fun g hg=>hc.block g (h.lt g hg) (hd g hg))
theorem SpX.below (h:SpX w s a ca b cb F S) (hc:Below w.heap.size w w'):SpX w' s a ca b cb F S:=h.ch (Ch.of (fun _=>False) hc) (fun _ _ h=>h)
theorem SpX.at (h:SpX w s a ca b cb F S):w.cell? ⟨s,0,none⟩=some (.int .i64 S.length)/\w.cell? ⟨s,1,none⟩=some (.slice (some ⟨a,0,none⟩) ((S.length+7)/8) ca)/\w.cell? ⟨s,2,none⟩=some (.slice (some ⟨b,0,none⟩) ((S.length+7)/8) cb):=by
 refine ⟨?_,?_,?_⟩<;>rw [cell_of_row w s _ _ _ (0,0) h.cells]<;>rfl
theorem SpX.rowA (h:SpX w s a ca b cb F S):Row w (some ⟨a,0,none⟩) ca (lasL S):=(h.last.row' (VG S)).2
theorem SpX.rowB (h:SpX w s a ca b cb F S):Row w (some ⟨b,0,none⟩) cb (bitL S):=(h.next.row' (bitL_bys S)).2
theorem SpX.next' (h:SpX w s a ca b cb F S) {S':List Int} (hs:w.heap.size<=w'.heap.size) (hk:∀g,F g->¬g=b->w'.heap[g]?=w.heap[g]?) (hl:S'.length=S.length) (ok:SpOk S') (e:lasL S'=lasL S) (hn:Own 0 w' (.slice (some ⟨b,0,none⟩) ((S.length+7)/8) cb) (bitL S')):SpX w' s a ca b cb F S':=
 {lt:=fun g hg=>jV (h.lt g hg) hs,fs:=h.fs,fa:=h.fa,fb:=h.fb,ok:=ok,cells:=by rw [hl];exact (hk s h.fs h.sb).trans h.cells
  last:=by rw [hl,e];exact h.last.kept (hk a h.fa h.ab)
  next:=by rw [hl];exact hn
  sa:=h.sa,sb:=h.sb,ab:=h.ab}
theorem SpX.last' (h:SpX w s a ca b cb F S) {S':List Int} (hs:w.heap.size<=w'.heap.size) (hk:∀g,F g->¬g=a->w'.heap[g]?=w.heap[g]?) (hl:S'.length=S.length) (ok:SpOk S') (e:bitL S'=bitL S) (hn:Own 0 w' (.slice (some ⟨a,0,none⟩) ((S.length+7)/8) ca) (lasL S')):SpX w' s a ca b cb F S':=
 {lt:=fun g hg=>jV (h.lt g hg) hs,fs:=h.fs,fa:=h.fa,fb:=h.fb,ok:=ok,cells:=by rw [hl];exact (hk s h.fs h.sa).trans h.cells
  last:=by rw [hl];exact hn
  next:=by rw [hl,e];exact h.next.kept (hk b h.fb (fun e=>h.ab e.symm))
  sa:=h.sa,sb:=h.sb,ab:=h.ab}
theorem made_any (h:SpX w s a ca b cb F S):Calls prog 74 #[.pointer (some ⟨s,0,none⟩)] w fun e w'=>e=.returned (.bool true)/\w=w':=by
 obtain ⟨c0,-,-⟩:=h.at;have hp:0<S.length:=by have:=h.ok.lo;omega
 clear h;go_enter func74,ntmps74
 go_wp2;go_ret
 exact ⟨rfl,rfl⟩
theorem has_any (h:SpX w s a ca b cb F S) (p:Int):Calls prog 179 #[.pointer (some ⟨s,0,none⟩),.int .i64 p] w fun e w'=>e=.returned (.bool (inB S p))/\w=w':=by
 obtain ⟨c0,-,-⟩:=h.at;have hhi:=h.ok.hi;clear h;by_cases h0:0<=p
 ·by_cases h1:p<(S.length:Int)
  ·have HE:Hid (inB S p=true):=by show _=_;unfold inB;rw [jF h0,jF h1];rfl
   go_enter func179,ntmps179
   go_wp2;go_ret
   rw [HE.out];exact ⟨rfl,rfl⟩
  ·have HE:Hid (inB S p=false):=by show _=_;unfold inB;rw [jF h0,jM h1];rfl
   go_enter func179,ntmps179
   go_wp2;go_ret
   rw [HE.out];exact ⟨rfl,rfl⟩
 ·have HE:Hid (inB S p=false):=by show _=_;unfold inB;rw [jM h0];rfl
  go_enter func179,ntmps179
  go_wp2;go_ret
  rw [HE.out];exact ⟨rfl,rfl⟩
end
def alwB (n:Int):Bool:=decide (8<=n/\n<=4096)
theorem allowed_any (n:Int) (w:World):Calls prog 65 #[.int .i64 n] w fun e w'=>e=.returned (.bool (alwB n))/\w=w':=by
 by_cases h0:8<=n
 ·by_cases h1:n<=4096
  ·have HE:Hid (alwB n=true):=jF ⟨h0,h1⟩;go_enter func65,ntmps65
   go_wp2;go_ret
   rw [HE.out];exact ⟨rfl,rfl⟩
  ·have HE:Hid (alwB n=false):=jM (fun h=>h1 h.2);go_enter func65,ntmps65
   go_wp2;go_ret
   rw [HE.out];exact ⟨rfl,rfl⟩
 ·have HE:Hid (alwB n=false):=jM (fun h=>h0 h.1);go_enter func65,ntmps65
  go_wp2;go_ret
  rw [HE.out];exact ⟨rfl,rfl⟩
theorem gI (n:Nat) (w:World) (h:n<=4096):Calls prog 106 #[.int .i64 n] w fun e w'=>e=.returned (.int .i64 ((n+7)/8:Nat))/\w=w':=by
 have hq:((n:Int)+7)/8=(((n+7)/8:Nat):Int):=by omega
 go_enter func106,ntmps106
 go_wp2;go_ret
 exact ⟨rfl,rfl⟩
theorem YQ (ad:Option Addr) (cap:Nat) (zs:List Int) (k:Nat) (w:World) (h:Row w ad cap zs) (hl:zs.length<=1000000) (hk:k<zs.length*8):
  Calls prog 107 #[.slice ad zs.length cap,.int .i64 k] w fun e w'=>e=.returned (.bool (bitR zs k))/\w=w':=by
 obtain ⟨b,off,rfl⟩:=h.some' (by omega);have hrow:=h.cells (k/8) (by omega);have hbz:=h.1.at (k/8);have hcap:=h.2.1;have hm:=h.2.2.1;unfold maxLen at hm;have hand:=bit_and hbz.1 hbz.2 (k%8);have hkj:((k:Int)/8)=((k/8:Nat):Int):=by omega
 have hkr:((k:Int)%8)=((k%8:Nat):Int):=by omega
 have hr8:k%8<8:=by omega
 have hj:k/8<zs.length:=by omega
 have hbit:bitR zs k=(zs.getD (k/8) 0/2^(k%8)%2==1):=rfl;obtain ⟨z,hz'⟩:∃z,zs.getD (k/8) 0=z:=⟨_,rfl⟩;rw [hz'] at hrow hbz hand hbit;obtain ⟨j,hj'⟩:∃j,k/8=j:=⟨_,rfl⟩;obtain ⟨r,hr'⟩:∃r,k%8=r:=⟨_,rfl⟩;rw [hj'] at hrow hkj hj;rw [hr'] at hand hkr hr8 hbit;have HB:Hid (bitR zs k=(z/2^r%2==1)):=hbit;clear hz' hj' hr' h hbit;have hm01:z/2^r%2=0\/z/2^r%2=1:=by omega
 rcases hm01 with hm|hm
 ·rw [hm] at hand;have HB2:Hid (bitR zs k=false):=by show _=_;rw [HB.out,hm];rfl
  clear hm hbz HB;go_enter func107,ntmps107
  go_wp2;go_ret
  rw [HB2.out];exact ⟨rfl,rfl⟩
 ·rw [hm] at hand;have HB2:Hid (bitR zs k=true):=by show _=_;rw [HB.out,hm];rfl
  clear hm hbz HB;go_enter func107,ntmps107
  go_wp2;go_ret
  rw [HB2.out];exact ⟨rfl,rfl⟩
theorem UJ (g n cap:Nat) (zs:List Int) (k:Nat) (w:World) (h:Own 0 w (.slice (some ⟨g,0,none⟩) n cap) zs) (hb:Bys zs) (hl:zs.length<=1000000) (hk:k<zs.length*8):
  Calls prog 122 #[.slice (some ⟨g,0,none⟩) n cap,.int .i64 k] w fun e w'=>e=.returned (.tuple #[])/\Own 0 w' (.slice (some ⟨g,0,none⟩) n cap) (zs.set (k/8) (bits .or .u8 (zs.getD (k/8) 0) (2^(k%8)%256)))/\Ch w.heap.size (fun x=>x=g) w w':=by
 obtain ⟨hn,b1,b2,hst⟩:=YC h (k/8) (by omega);obtain ⟨-,-,hcap,hm,-⟩:=h.cur;unfold maxLen at hm;have hkj:((k:Int)/8)=((k/8:Nat):Int):=by omega
 have hkr:((k:Int)%8)=((k%8:Nat):Int):=by omega
 have hr8:k%8<8:=by omega
 have hj:k/8<n:=by omega
 have HS:Hid (∀y:Int,Own 0 (w.setCell ⟨g,k/8,none⟩ (.int .u8 y)) (.slice (some ⟨g,0,none⟩) n cap) (zs.set (k/8) y)):=hst;have hzb:=hb.at (k/8);obtain ⟨z,hz'⟩:∃z,zs.getD (k/8) 0=z:=⟨_,rfl⟩;rw [hz'] at b1 hzb ⊢;obtain ⟨j,hj'⟩:∃j,k/8=j:=⟨_,rfl⟩;obtain ⟨r,hr'⟩:∃r,k%8=r:=⟨_,rfl⟩;rw [hj'] at b1 b2 hkj hj HS ⊢;rw [hr'] at hkr hr8 ⊢;have HL:Hid (n<=1000000):=by show _<=_;omega
 have hn1:=HL.out;clear hz' hj' hr' h hst hb hn hl hk;go_enter func122,ntmps122
 go_wp2;go_region
 go_end0
 exact ⟨rfl,HS.out _,(Ch.set (F:=fun x=>x=g) rfl _ _).drew⟩
theorem uV (g n cap:Nat) (zs:List Int) (k:Nat) (w:World) (h:Own 0 w (.slice (some ⟨g,0,none⟩) n cap) zs) (hb:Bys zs) (hl:zs.length<=1000000) (hk:k<zs.length*8):
  Calls prog 181 #[.slice (some ⟨g,0,none⟩) n cap,.int .i64 k] w fun e w'=>e=.returned (.tuple #[])/\Own 0 w' (.slice (some ⟨g,0,none⟩) n cap) (zs.set (k/8) (bits .andNot .u8 (zs.getD (k/8) 0) (2^(k%8)%256)))/\Ch w.heap.size (fun x=>x=g) w w':=by
 obtain ⟨hn,b1,b2,hst⟩:=YC h (k/8) (by omega);obtain ⟨-,-,hcap,hm,-⟩:=h.cur;unfold maxLen at hm;have hkj:((k:Int)/8)=((k/8:Nat):Int):=by omega
 have hkr:((k:Int)%8)=((k%8:Nat):Int):=by omega
 have hr8:k%8<8:=by omega
 have hj:k/8<n:=by omega
 have HS:Hid (∀y:Int,Own 0 (w.setCell ⟨g,k/8,none⟩ (.int .u8 y)) (.slice (some ⟨g,0,none⟩) n cap) (zs.set (k/8) y)):=hst;have hzb:=hb.at (k/8);obtain ⟨z,hz'⟩:∃z,zs.getD (k/8) 0=z:=⟨_,rfl⟩;rw [hz'] at b1 hzb ⊢;obtain ⟨j,hj'⟩:∃j,k/8=j:=⟨_,rfl⟩;obtain ⟨r,hr'⟩:∃r,k%8=r:=⟨_,rfl⟩;rw [hj'] at b1 b2 hkj hj HS ⊢;rw [hr'] at hkr hr8 ⊢;have HL:Hid (n<=1000000):=by show _<=_;omega
 have hn1:=HL.out;clear hz' hj' hr' h hst hb hn hl hk;go_enter func181,ntmps181
 go_wp2;go_region
 go_end0
 exact ⟨rfl,HS.out _,(Ch.set (F:=fun x=>x=g) rfl _ _).drew⟩
end Go.Proofs.YtaijfhadecennabGreat.Oct.Sps
