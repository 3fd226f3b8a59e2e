/- Part of a proof. -/
import Derived.Test.YtaijfhadecennabGreatR
import Derived.Laws.CopyOwn
open Go.Proofs.Tryz
set_option maxHeartbeats 1000000
namespace Go.Proofs.YtaijfhadecennabGreat.Oct
open Go.RowKit
def insB (len:Nat) (at' n:Int):Bool:=decide (1<=n/\n<=8/\0<=at'/\at'<=(len:Int)-n)
theorem QD (a:Option Addr) (len cap:Nat) (at' n:Int) (w:World) (hm:len<=maxLen):
  Calls prog 163 #[.slice a len cap,.int .i64 at',.int .i64 n] w fun e w'=>e=.returned (.bool (insB len at' n))/\w=w':=by
 unfold maxLen at hm;by_cases h1:1<=n
 ·by_cases h2:n<=8
  ·by_cases h3:0<=at'
   ·by_cases h4:at'<=(len:Int)-n
    ·have hv:insB len at' n=true:=by simp [insB];omega
     rw [hv];clear hv;go_enter func163,ntmps163
     go_wp2;go_ret
     exact ⟨rfl,rfl⟩
    ·have hv:insB len at' n=false:=by simp [insB];omega
     rw [hv];clear hv;go_enter func163,ntmps163
     go_wp2;go_ret
     exact ⟨rfl,rfl⟩
   ·have hv:insB len at' n=false:=by simp [insB];omega
    rw [hv];clear hv;go_enter func163,ntmps163
    go_wp2;go_ret
    exact ⟨rfl,rfl⟩
  ·have hv:insB len at' n=false:=by simp [insB];omega
   rw [hv];clear hv;go_enter func163,ntmps163
   go_wp2;go_ret
   exact ⟨rfl,rfl⟩
 ·have hv:insB len at' n=false:=by simp [insB];omega
  rw [hv];clear hv;go_enter func163,ntmps163
  go_wp2;go_ret
  exact ⟨rfl,rfl⟩
theorem rnext_any (p:Addr) (b off len cap:Nat) (z:Int) (w:World) (hc:w.cell? p=some (.slice (some ⟨b,off,none⟩) (len+1) cap)) (hf:w.frozen? p=false) (hz:w.cell? ⟨b,off,none⟩=some (.int .u8 z)) (hl:len+1<=cap) (_hm:cap<=maxLen):
  Calls prog 200 #[.pointer (some p)] w fun e w'=>e=.returned (.int .u8 z)/\∃o',(1<=len->o'=off+1)/\w'=w.setCell p (.slice (some ⟨b,o',none⟩) len (cap-1)):=by
 go_enter func200,ntmps200
 go_wp2
 ·go_ret
  exact ⟨rfl,off,by omega,by simp⟩
 ·go_ret
  exact ⟨rfl,off+1,fun _=>rfl,rfl⟩
theorem get_no (a:Option Addr) (len cap:Nat) (p n:Int) (w:World) (hm:len<=maxLen) (hi:insB len p n=false):
  Calls prog 119 #[.slice a len cap,.int .i64 p,.int .i64 n] w fun e w'=>e=.returned (.tuple #[.int .i64 0,.bool false])/\w=w':=by
 go_enter func119,ntmps119
 go_wp2_with (go_at_call 163;refine (QD _ _ _ _ _ _ hm).mono ?_;rintro e w' ⟨rfl,rfl⟩)
 go_ret2
 exact ⟨rfl,rfl⟩
theorem reader_any (v:Value) (a:Option Addr) (len cap:Nat) (w:World) (hv:v=.slice a len cap):
  Calls prog 164 #[v] w fun e w'=>e=.returned (.func (Fn.func 200) #[] #[.pointer (some ⟨w.heap.size,0,none⟩)])/\w'=w.alloc (.cells #[.slice a len cap] 22):=by
 subst hv;go_enter func164,ntmps164
 go_wp2;go_ret
 exact ⟨rfl,rfl⟩
theorem get_yes (b off cap:Nat) (zs:List Int) (p n:Nat) (w:World) (hz:∀i,i<zs.length->w.cell? ⟨b,off+i,none⟩=some (.int .u8 (zs.getD i 0))) (hb:Bys zs) (hl:zs.length<=cap) (hcap:cap<=maxLen) (h1:1<=n) (h8:n<=8) (hp:p+n<=zs.length):
  Calls prog 119 #[.slice (some ⟨b,off,none⟩) zs.length cap,.int .i64 p,.int .i64 n] w fun e w'=>e=.returned (.tuple #[.int .i64 (capI (num zs p n)),.bool (capB (num zs p n))])/\Below w.heap.size w w':=by
 have hi:insB zs.length p n=true:=by simp [insB];omega
 have hm:zs.length<=maxLen:=by omega
 have hm':=hcap;unfold maxLen at hm';have hbl:b<w.heap.size:=block_lt_of_cell (hz 0 (by omega));go_enter func119,ntmps119
 go_wp2_with (first|(go_at_call 163;refine (QD _ _ _ _ _ _ hm).mono ?_;rintro e w' ⟨rfl,rfl⟩)|(go_at_call 164;refine (reader_any _ _ _ _ _ rfl).mono ?_;rintro e w' ⟨rfl,rfl⟩))
 go_loopw [9,23] (fun x i wr=>∃k o c:Nat,k<=n/\i=.int .i64 k/\x=.int .u64 (num zs p k)/\wr.cell? ⟨w.heap.size,0,none⟩=some (.slice (some ⟨b,o,none⟩) (n-k) c)/\(k<n->o=off+(p+k)/\n-k<=c/\c<=cap)/\wr.frozen? ⟨w.heap.size,0,none⟩=false/\Below w.heap.size w wr) (fun _ i _=>n-(intOf i).toNat)
 case atStart=>exact ⟨0,off+p,cap-p,jW _,rfl,rfl,by simp,fun _=>⟨by omega,by omega,by omega⟩,by simp,(Below.refl _ _).alloc (jB _) _⟩
 case round=>
  obtain ⟨k,o,c,hk,rfl,rfl,hbox,hkn,hfr,hbel⟩:=hrel;by_cases hlt:k<n
  ·obtain ⟨ho,hc1,hc2⟩:=hkn hlt;subst ho;obtain ⟨m,hnm⟩:∃m,n-k=m+1:=⟨n-k-1,by omega⟩;rw [hnm] at hbox hc1;have HNM:Hid (n-k=m+1):=hnm;clear hnm;have hc:=(hbel.cell (p:=⟨b,off+(p+k),none⟩) hbl).trans (hz (p+k) (by omega));have hb7:=YE hb p k (by omega);have HB:Hid (Bys zs):=hb;have hmx:c<=maxLen:=by omega
   go_wp2_with (go_at_call 200;refine (rnext_any _ _ _ _ _ _ _ hbox hfr hc hc1 hmx).mono ?_;rintro e w1 ⟨rfl,o',ho',rfl⟩)
   go_roundw
   case rel=>exact ⟨k+1,o',c-1,by omega,by go_num,congrArg _ (num_or HB.out p k (by omega)),(by rw [World.cell?_setCell_same _ _ _ hbox];have:=HNM.out;rw [show n-(k+1)=m from by omega]),(fun h=>⟨by rw [ho' (by have:=HNM.out;omega)];omega,by have:=HNM.out;omega,by omega⟩),(by rw [World.frozen?_setCell];exact hfr),hbel.setCell (jB _) _⟩
   case measure=>simp [intOf];omega
  ·have hkn:n=k:=by omega
   subst hkn;have hb0:=(uJ hb p n).1;by_cases hle:num zs p n<=4611686018427387904
   ·have hle':=hle;go_wp2;go_ret2
    exact ⟨by rw [(XG hle').1,(XG hle').2];rfl,hbel⟩
   ·have hle':=Int.not_le.1 hle;go_wp2;go_ret2
    exact ⟨by rw [(FN hle').1,(FN hle').2];rfl,hbel⟩
def getI (zs:List Int) (p n:Int):Int:=if insB zs.length p n then capI (num zs p.toNat n.toNat) else 0
def getB (zs:List Int) (p n:Int):Bool:=if insB zs.length p n then capB (num zs p.toNat n.toNat) else false
theorem VI {len:Nat} {p n:Int} (h:insB len p n=true):1<=n/\n<=8/\0<=p/\p<=(len:Int)-n:=by simpa [insB] using h
theorem vN (a:Option Addr) (cap:Nat) (zs:List Int) (p n:Int) (w:World) (h:Row w a cap zs):
  Calls prog 119 #[.slice a zs.length cap,.int .i64 p,.int .i64 n] w fun e w'=>e=.returned (.tuple #[.int .i64 (getI zs p n),.bool (getB zs p n)])/\Below w.heap.size w w':=by
 obtain ⟨h1,h2,h3,h4⟩:=h;by_cases hi:insB zs.length p n=true
 ·have hv:=VI hi;obtain ⟨p',rfl⟩:=qB hv.2.2.1;obtain ⟨n',rfl⟩:=qB (show 0<=n by omega);rcases h4 with rfl|⟨b,off,rfl,hc⟩
  ·simp at hv;omega
  ·have e1:getI zs p' n'=capI (num zs p' n'):=by simp [getI,hi]
   have e2:getB zs p' n'=capB (num zs p' n'):=by simp [getB,hi]
   rw [e1,e2];exact get_yes b off cap zs p' n' w hc h1 h2 h3 (by omega) (by omega) (by omega)
 ·have hi':insB zs.length p n=false:=by simpa using hi
  have e1:getI zs p n=0:=by simp [getI,hi']
  have e2:getB zs p n=false:=by simp [getB,hi']
  rw [e1,e2];refine (get_no a zs.length cap p n w (by omega) hi').mono ?_;rintro e w' ⟨rfl,rfl⟩;exact ⟨rfl,Below.refl _ _⟩
def lay (zs:List Int) (f:Nat->Bool) (g:Nat->Int):List Int:=(List.range zs.length).map fun i=>if f i then g i else zs.getD i 0
theorem XC (zs:List Int) (f:Nat->Bool) (g:Nat->Int):(lay zs f g).length=zs.length:=by simp [lay]
theorem VF (zs:List Int) (f:Nat->Bool) (g:Nat->Int) (i:Nat) (hi:i<zs.length):(lay zs f g).getD i 0=if f i then g i else zs.getD i 0:=by
 unfold lay;rw [jA,qN,List.getElem?_range hi];rfl
theorem ZG {xs ys:List Int} (hl:xs.length=ys.length) (h:∀i,i<xs.length->xs.getD i 0=ys.getD i 0):xs=ys:=by
 refine List.ext_getElem hl fun i h1 h2=>?_
 have:=h i h1;rw [jA,jA,jC h1,jC h2] at this;exact this
theorem set_at (zs:List Int) (j:Nat) (y:Int) (i:Nat) (hi:i<zs.length):(zs.set j y).getD i 0=if i=j then y else zs.getD i 0:=by
 rw [jA,jA,xX];by_cases h:i=j
 ·subst h;simp [hi]
 ·simp [h,show ¬j=i by omega]
theorem lay_set (zs:List Int) (f f':Nat->Bool) (g:Nat->Int) (j:Nat) (hj:f' j=true) (hf:∀i,i≠j->f' i=f i):(lay zs f g).set j (g j)=lay zs f' g:=by
 refine ZG (by simp [XC]) fun i hi=>?_
 rw [qC,XC] at hi;rw [set_at _ _ _ _ (by rw [XC];exact hi),VF _ _ _ _ hi,VF _ _ _ _ hi];by_cases h:i=j
 ·subst h;simp [hj]
 ·simp [h,hf i h]
theorem lay_none (zs:List Int) (f:Nat->Bool) (g:Nat->Int) (h:∀i,f i=false):lay zs f g=zs:=by
 refine ZG (XC ..) fun i hi=>?_
 rw [XC] at hi;rw [VF _ _ _ _ hi,h i];rfl
theorem lay_congr (zs:List Int) (f f':Nat->Bool) (g:Nat->Int) (h:∀i,f i=f' i):lay zs f g=lay zs f' g:=by
 unfold lay
 congr 1
 funext i
 rw [h i]
theorem lay_bys {zs:List Int} (hz:Bys zs) (f:Nat->Bool) (g:Nat->Int) (hg:∀i,0<=g i/\g i<=255):Bys (lay zs f g):=by
 intro z hm;unfold lay at hm;rw [List.mem_map] at hm;obtain ⟨i,_,rfl⟩:=hm;split
 ·exact hg i
 ·exact hz.at i
def dgt (X p n i:Nat):Int:=((X/256^(p+n-1-i)%256:Nat):Int)
theorem dgt_bd (X p n i:Nat):0<=dgt X p n i/\dgt X p n i<=255:=by unfold dgt;omega
def putL (zs:List Int) (p n X:Nat):List Int:=lay zs (fun i=>decide (p<=i/\i<p+n)) (dgt X p n)
theorem ZJ (zs:List Int) (p n X:Nat):(putL zs p n X).length=zs.length:=XC ..
theorem gM {zs:List Int} (hz:Bys zs) (p n X:Nat):Bys (putL zs p n X):=lay_bys hz _ _ (dgt_bd X p n)
theorem div_step (X m:Nat):X/256^(m+1)*256+X/256^m%256=X/256^m:=by
 rw [Nat.pow_succ,<-Nat.div_div_eq_div_mul];omega
theorem num_putL (zs:List Int) (p n X:Nat) (hp:p+n<=zs.length) (hX:X<256^n):∀k,k<=n->num (putL zs p n X) p k=((X/256^(n-k):Nat):Int):=by
 intro k
 induction k with
 |zero=>
  intro _;rw [Nat.sub_zero,Nat.div_eq_of_lt hX];rfl
 |succ k ih=>
  intro hk;rw [XO,ih (by omega)]
  have e:(putL zs p n X).getD (p+k) 0=dgt X p n (p+k):=by
   unfold putL;rw [VF _ _ _ _ (by omega)];simp;omega
  rw [e];unfold dgt;have:=div_step X (n-(k+1));rw [show n-k=n-(k+1)+1 from by omega,show p+n-1-(p+k)=n-(k+1) from by omega];omega
theorem num_put (zs:List Int) (p n X:Nat) (hp:p+n<=zs.length) (hX:X<256^n):num (putL zs p n X) p n=(X:Int):=by
 rw [num_putL zs p n X hp hX n (jB _)];simp
def down (zs:List Int) (p n X j:Nat):List Int:=lay zs (fun i=>decide (p+n<=i+j/\i<p+n)) (dgt X p n)
theorem down_zero (zs:List Int) (p n X:Nat):down zs p n X 0=zs:=lay_none _ _ _ fun i=>by simp
theorem down_all (zs:List Int) (p n X:Nat):down zs p n X n=putL zs p n X:=lay_congr _ _ _ _ fun i=>by simp
theorem down_len (zs:List Int) (p n X j:Nat):(down zs p n X j).length=zs.length:=XC ..
theorem down_next (zs:List Int) (p n X j:Nat) (hj:j<n):(down zs p n X j).set (p+n-1-j) ((X/256^j%256:Nat):Int)=down zs p n X (j+1):=by
 have e:((X/256^j%256:Nat):Int)=dgt X p n (p+n-1-j):=by
  unfold dgt;rw [show p+n-1-(p+n-1-j)=j from by omega]
 rw [e];exact lay_set _ _ _ _ _ (by simp;omega) (fun i hi=>by rw [xY];simp;omega)
def fitB (n x:Int):Bool:=decide (0<=x/\x<=4611686018427387904/\x<256^n.toNat)
theorem UO {a b:Bool} (h:a=b):Ending.returned (.bool a)=.returned (.bool b):=by rw [h]
theorem fit_eq {x:Int} (h0:0<=x) (h2:x<=4611686018427387904) (n c:Int) (hc:c=256^n.toNat) (hp:0<c):(x/c==0)=fitB n x:=by
 unfold fitB;rw [<-hc,xY];simp only [beq_iff_eq,jQ];constructor
 ·intro h;refine ⟨h0,h2,?_⟩;have:=Int.emod_lt_of_pos x hp;have e:=Int.mul_ediv_add_emod x c;rw [h] at e;omega
 ·intro h;exact Int.ediv_eq_zero_of_lt h0 h.2.2
theorem fit_no {n x:Int} (h:¬(0<=x/\x<=4611686018427387904)):fitB n x=false:=by
 unfold fitB;simp only [decide_eq_false_iff_not];omega
theorem GN (n x:Int) (w:World) (h1:1<=n) (h8:n<=8) (hx:x<=9223372036854775807):
  Calls prog 226 #[.int .i64 n,.int .i64 x] w fun e w'=>e=.returned (.bool (fitB n x))/\w=w':=by
 by_cases h0:0<=x
 ·by_cases h2:x<=4611686018427387904
  ·have:n=1\/n=2\/n=3\/n=4\/n=5\/n=6\/n=7\/n=8:=by omega
   rcases this with rfl|rfl|rfl|rfl|rfl|rfl|rfl|rfl
   all_goals
    go_enter func226,ntmps226
    go_wp2;go_ret
    exact ⟨UO (fit_eq h0 h2 _ _ (by decide) (by decide)),rfl⟩
  ·go_enter func226,ntmps226
   go_wp2;go_ret
   exact ⟨UO (fit_no (by omega)).symm,rfl⟩
 ·go_enter func226,ntmps226
  go_wp2;go_ret
  exact ⟨UO (fit_no (by omega)).symm,rfl⟩
theorem put_no (a:Option Addr) (len cap:Nat) (p n x:Int) (w:World) (hm:len<=maxLen) (hx:x<=9223372036854775807) (hi:(insB len p n&&fitB n x)=false):
  Calls prog 204 #[.slice a len cap,.int .i64 p,.int .i64 n,.int .i64 x] w fun e w'=>e=.returned (.tuple #[.slice none 0 0,.bool false])/\w=w':=by
 cases hi1:insB len p n
 ·clear hi;go_enter func204,ntmps204
  go_wp2_with (go_at_call 163;refine (QD _ _ _ _ _ _ hm).mono ?_;rintro e w' ⟨rfl,rfl⟩)
  go_ret2
  exact ⟨rfl,rfl⟩
 ·rw [hi1,yE] at hi;have hv:=VI hi1;go_enter func204,ntmps204
  go_wp2_with (first|(go_at_call 163;refine (QD _ _ _ _ _ _ hm).mono ?_;rintro e w' ⟨rfl,rfl⟩)|(go_at_call 226;refine (GN _ _ _ hv.1 hv.2.1 hx).mono ?_;rintro e w' ⟨rfl,rfl⟩))
  go_ret2
  exact ⟨rfl,rfl⟩
theorem fit_yes {n X:Nat} (hX:X<=4611686018427387904) (hXn:X<256^n):fitB n X=true:=by
 unfold fitB;refine jF ⟨by omega,by omega,?_⟩;rw [jS];have h:((X:Nat):Int)<((256^n:Nat):Int):=Int.ofNat_lt.2 hXn;rw [Int.natCast_pow] at h;exact h
theorem made_cells {base g n:Nat} {w:World} {xs:List Value} (h:w.ownsRow base 5 1 (.slice (some ⟨g,0,none⟩) n n) n xs):
  ∃cur:List Value,Hid (w.heap[g]?=some (.cells cur.toArray 5 (0,0)))/\Hid (cur.length=n):=by
 obtain ⟨_,⟨h',_⟩|⟨g',cap',cur,h',_,hg,_,_,hs,_⟩⟩:=h
 ·simp at h'
 ·simp only [Value.slice.injEq,jP,Addr.mk.injEq,and_true,true_and] at h';obtain ⟨rfl,rfl⟩:=h';exact ⟨cur.toList,show _=_ by simpa using hg,show _=_ by simpa using hs⟩
theorem fO {B g:Nat} {w:World} {cur:List Value} {zs:List Int} (hg:B<=g) (hm:zs.length<=maxLen) (hl:cur.length=zs.length)
  (h:w.heap[g]?=some (.cells (splice cur 0 (zs.map (Value.int .u8))).toArray 5 (0,0))):Own B w (.slice (some ⟨g,0,none⟩) zs.length zs.length) zs:=by
 have e:splice cur 0 (zs.map (Value.int .u8))=zs.map (Value.int .u8):=by
  simp [splice];omega
 rw [e] at h;refine ⟨by simp,.inr ⟨g,zs.length,_,rfl,hg,h,jB _,hm,by simp,qP (by simp)⟩⟩
theorem src_cells {w:World} {b off:Nat} {zs:List Int} (hz:∀i,i<zs.length->w.cell? ⟨b,off+i,none⟩=some (.int .u8 (zs.getD i 0))):
  ∀j v,(zs.map (Value.int .u8))[j]?=some v->w.cell? ((⟨b,off,none⟩:Addr).add j)=some v:=by
 intro j v hj
 have hlt:j<zs.length:=by
  have:=(List.getElem?_eq_some_iff.1 hj).1
  simpa using this
 have e:(⟨b,off,none⟩:Addr).add j=⟨b,off+j,none⟩:=by simp [Addr.add]
 rw [e,hz j hlt,<-hj];simp [hlt]
set_option maxRecDepth 4000 in
theorem put_yes (b off cap:Nat) (zs:List Int) (p n X:Nat) (w:World) (hz:∀i,i<zs.length->w.cell? ⟨b,off+i,none⟩=some (.int .u8 (zs.getD i 0))) (hl:zs.length<=cap) (hcap:cap<=maxLen) (hsz:zs.length<=140737488355328) (h1:1<=n) (h8:n<=8) (hp:p+n<=zs.length) (hX:X<=4611686018427387904) (hXn:X<256^n):
  Calls prog 204 #[.slice (some ⟨b,off,none⟩) zs.length cap,.int .i64 p,.int .i64 n,.int .i64 X] w fun e w'=>∃v,e=.returned (.tuple #[v,.bool true])/\Own w.heap.size w' v (putL zs p n X)/\Below w.heap.size w w':=by
 obtain ⟨i0,hi0,hz0,hz1,hz2⟩:=info_parts info5;have hi:insB zs.length p n=true:=by simp [insB];omega
 have hf:fitB n X=true:=fit_yes hX hXn;have hm:zs.length<=maxLen:=by omega
 have hm':=hcap;unfold maxLen at hm';clear hXn;go_enter func204,ntmps204
 have HZ:Hid (∀i,i<zs.length->w.cell? ⟨b,off+i,none⟩=some (.int .u8 (zs.getD i 0))):=hz;have hbl:b<w.heap.size:=block_lt_of_cell (hz 0 (by omega));clear hz;have hs1:(prog.info? 5).map (·.size)=some 1:=by rw [hi0];simp [hz1]
 have HS1:Hid ((prog.info? 5).map (·.size)=some 1):=hs1;clear hs1;go_wp2_with (first|(go_at_call 163;refine (QD _ _ _ _ _ _ hm).mono ?_;rintro e w' ⟨rfl,rfl⟩)|(go_at_call 226;refine (GN _ _ _ (by omega) (by omega) (by omega)).mono ?_;rintro e w' ⟨rfl,rfl⟩)|(at_make;refine wpList_make_full _ rfl _ _ 22 rfl w.heap.size 5 i0 (.int .u8 0) 1 underlying22 hi0 hz0 hz1 .i64 .i64 _ _ zs.length rfl rfl rfl rfl (by rw [hz2];omega) hm (jB _) ?_;intro w1 hown1 hgrow1;obtain ⟨cur,hcur,hcl⟩:=made_cells hown1;have hbel1:Below w.heap.size w w1:=(Below.refl w.heap.size w).grown hgrow1 (jB _) (by simp);clear hown1 hgrow1)|(refine wpList_copy_splice rfl (.tmp 26) (.tmp 27) 22 22 rfl 5 underlying22 HS1.out _ _ _ _ _ _ rfl rfl w.heap.size 0 cur 5 hcur.out (zs.map (Value.int .u8)) (by simp) (fun _=>⟨rfl,_,rfl,src_cells (fun i hi=>(hbel1.cell (p:=⟨b,off+i,none⟩) hbl).trans (HZ.out i hi))⟩) (by rw [hcl.out];simp) (ints_oneCell _ _) w.heap.size w hbel1 (jB _) ?_;intro w2 hcells hbel2))
 have hown2:=fO (jB _) hm hcl.out hcells.out;clear hcells hcl hcur hbel1 HZ HS1;go_loopw [3,11] (fun x i wr=>∃j:Nat,j<=n/\x=.int .i64 (X/256^j:Nat)/\i=.int .i64 (((p+n-j:Nat):Int)-1)/\Own w.heap.size wr (.slice (some ⟨w.heap.size,0,none⟩) zs.length zs.length) (down zs p n X j)/\Below w.heap.size w wr) (fun _ i _=>(intOf i+1-p).toNat)
 case atStart=>exact ⟨0,jW _,by simp,congrArg _ (by omega),by rw [down_zero];exact hown2,hbel2⟩
 case round=>
  obtain ⟨j,hj,rfl,rfl,hown,hbel⟩:=hrel;obtain ⟨y,hy⟩:∃y,X/256^j=y:=⟨_,rfl⟩;have hyX:y<=X:=by rw [<-hy];exact Nat.div_le_self _ _
  rw [hy];have HY:Hid (X/256^j=y):=hy;clear hy;by_cases hlt:j<n
  ·obtain ⟨m,hmm⟩:∃m,p+n-j=m+1:=⟨p+n-j-1,by omega⟩;have hmp:p<=m:=by omega
   have hml:m<zs.length:=by omega
   have em:(((p+n-j:Nat):Int)-1)=(m:Int):=by omega
   rw [em];have HM:Hid (p+n-j=m+1):=hmm;clear em hmm;obtain ⟨_,hc,hfr,hst⟩:=YC hown m (by rw [down_len];exact hml);have hst':=hst ((y%256:Nat):Int)
   have e:(down zs p n X j).set m ((y%256:Nat):Int)=down zs p n X (j+1):=by
    have:=down_next zs p n X j hlt;rw [HY.out] at this;rw [show m=p+n-1-j from by have:=HM.out;omega];exact this
   rw [e,show ((y%256:Nat):Int)=(y:Int)%256 from by omega] at hst';have HST:Hid (Own w.heap.size (wr.setCell ⟨w.heap.size,m,none⟩ (.int .u8 ((y:Int)%256))) (.slice (some ⟨w.heap.size,0,none⟩) zs.length zs.length) (down zs p n X (j+1))):=hst';obtain ⟨c,hcc⟩:∃c:Int,(down zs p n X j).getD m 0=c:=⟨_,rfl⟩;rw [hcc] at hc;clear hst hst' e hown hcc;go_wp2;go_roundw
   case rel=>exact ⟨j+1,by omega,congrArg _ (by rw [Nat.pow_succ,<-Nat.div_div_eq_div_mul,HY.out];omega),congrArg _ (by have:=HM.out;omega),HST.out,hbel.setCell (jB _) _⟩
   case measure=>simp [intOf];omega
  ·have hjn:j=n:=by omega
   subst hjn;rw [down_all] at hown;go_wp2;go_ret2
   exact ⟨_,rfl,hown,hbel⟩
end Go.Proofs.YtaijfhadecennabGreat.Oct
