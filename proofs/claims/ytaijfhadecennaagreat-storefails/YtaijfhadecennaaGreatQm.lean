/- Part of a proof. -/
import Derived.Test.YtaijfhadecennaaGreatR
open Go.Proofs.Tryz
set_option maxHeartbeats 1000000
namespace Go.Proofs.YtaijfhadecennaaGreat.Oct
open Go.RowKit
def num (zs:List Int) (p:Nat):Nat->Int
 |0=>0
 |k+1=>num zs p k*256+zs.getD (p+k) 0
theorem ZJ {zs:List Int} (h:Bys zs) (p k:Nat):0<=num zs p k/\num zs p k<256^k:=by
 induction k with
 |zero=>simp [num]
 |succ k ih=>
  have hz:=h.at (p+k);rw [num,Int.pow_succ];omega
theorem XT {zs:List Int} (h:Bys zs) (p k:Nat) (hk:k<=7):0<=num zs p k/\num zs p k<=72057594037927935:=by
 have hb:=ZJ h p k;have:k=0\/k=1\/k=2\/k=3\/k=4\/k=5\/k=6\/k=7:=by omega
 rcases this with rfl|rfl|rfl|rfl|rfl|rfl|rfl|rfl<;>omega
def capI (c:Int):Int:=if c<=4611686018427387904 then c else 0
def capB (c:Int):Bool:=decide (c<=4611686018427387904)
theorem QG {c:Int} (h:c<=4611686018427387904):capI c=c/\capB c=true:=by simp [capI,capB,h]
theorem UD {c:Int} (h:4611686018427387904<c):capI c=0/\capB c=false:=by
 have:¬c<=4611686018427387904:=by omega
 simp [capI,capB,this]
theorem join8 (x z:Int) (h0:0<=x) (h1:x<=72057594037927935) (z0:0<=z) (z1:z<=255):
  bits .or .u64 (x*256) (IntKind.u64.wrap z)=x*256+z:=by
 rw [IntWalk.u64_in z (by omega),u64_or _ _ (by omega) (by omega) (by omega) (by omega),nat_join 8 _ _ (by omega) (by omega)];omega
theorem XK (zs:List Int) (p k:Nat):num zs p (k+1)=num zs p k*256+zs.getD (p+k) 0:=rfl
theorem num_or {zs:List Int} (h:Bys zs) (p k:Nat) (hk:k<=7):
  bits .or .u64 (num zs p k*256) (IntKind.u64.wrap (zs[p+k]?.getD 0))=num zs p (k+1):=by
 have h1:=XT h p k hk;have h2:=h.at (p+k);rw [jA] at h2;rw [join8 _ _ h1.1 h1.2 h2.1 h2.2,XK,jA]
def insB (len:Nat) (at' n:Int):Bool:=decide (1<=n/\n<=8/\0<=at'/\at'<=(len:Int)-n)
theorem QU (a:Option Addr) (len cap:Nat) (at' n:Int) (w:World) (hm:len<=maxLen):
  Calls prog 210 #[.slice a len cap,.int .i64 at',.int .i64 n] w fun e w'=>e=.returned (.bool (insB len at' n))/\w=w':=by
 unfold maxLen at hm;by_cases h1:1<=n
 ·by_cases h2:n<=8
  ·by_cases h3:0<=at'
   ·by_cases h4:at'<=(len:Int)-n
    ·have hv:insB len at' n=true:=by simp [insB];omega
     rw [hv];clear hv;go_enter func210,ntmps210
     go_wp2;go_ret
     exact ⟨rfl,rfl⟩
    ·have hv:insB len at' n=false:=by simp [insB];omega
     rw [hv];clear hv;go_enter func210,ntmps210
     go_wp2;go_ret
     exact ⟨rfl,rfl⟩
   ·have hv:insB len at' n=false:=by simp [insB];omega
    rw [hv];clear hv;go_enter func210,ntmps210
    go_wp2;go_ret
    exact ⟨rfl,rfl⟩
  ·have hv:insB len at' n=false:=by simp [insB];omega
   rw [hv];clear hv;go_enter func210,ntmps210
   go_wp2;go_ret
   exact ⟨rfl,rfl⟩
 ·have hv:insB len at' n=false:=by simp [insB];omega
  rw [hv];clear hv;go_enter func210,ntmps210
  go_wp2;go_ret
  exact ⟨rfl,rfl⟩
theorem lies_any (a:Option Addr) (len cap:Nat) (at' n:Int) (w:World) (hm:len<=maxLen):
  Calls prog 262 #[.slice a len cap,.int .i64 at',.int .i64 n] w fun e w'=>e=.returned (.bool (insB len at' n))/\w=w':=by
 unfold maxLen at hm;by_cases h1:1<=n
 ·by_cases h2:n<=8
  ·by_cases h3:0<=at'
   ·by_cases h4:at'<=(len:Int)-n
    ·have hv:insB len at' n=true:=by simp [insB];omega
     rw [hv];clear hv;go_enter func262,ntmps262
     go_wp2;go_ret
     exact ⟨rfl,rfl⟩
    ·have hv:insB len at' n=false:=by simp [insB];omega
     rw [hv];clear hv;go_enter func262,ntmps262
     go_wp2;go_ret
     exact ⟨rfl,rfl⟩
   ·have hv:insB len at' n=false:=by simp [insB];omega
    rw [hv];clear hv;go_enter func262,ntmps262
    go_wp2;go_ret
    exact ⟨rfl,rfl⟩
  ·have hv:insB len at' n=false:=by simp [insB];omega
   rw [hv];clear hv;go_enter func262,ntmps262
   go_wp2;go_ret
   exact ⟨rfl,rfl⟩
 ·have hv:insB len at' n=false:=by simp [insB];omega
  rw [hv];clear hv;go_enter func262,ntmps262
  go_wp2;go_ret
  exact ⟨rfl,rfl⟩
theorem rnext_any (p:Addr) (b off len cap:Nat) (z:Int) (w:World) (hc:w.cell? p=some (.slice (some ⟨b,off,none⟩) (len+1) cap)) (hf:w.frozen? p=false) (hz:w.cell? ⟨b,off,none⟩=some (.int .u8 z)) (hl:len+1<=cap) (_hm:cap<=maxLen):
  Calls prog 251 #[.pointer (some p)] w fun e w'=>e=.returned (.int .u8 z)/\∃o',(1<=len->o'=off+1)/\w'=w.setCell p (.slice (some ⟨b,o',none⟩) len (cap-1)):=by
 go_enter func251,ntmps251
 go_wp2
 ·go_ret
  exact ⟨rfl,off,by omega,by simp⟩
 ·go_ret
  exact ⟨rfl,off+1,fun _=>rfl,rfl⟩
theorem refget_yes (b off cap:Nat) (zs:List Int) (p n:Nat) (w:World) (hz:∀i,i<zs.length->w.cell? ⟨b,off+i,none⟩=some (.int .u8 (zs.getD i 0))) (hb:Bys zs) (hm:zs.length<=maxLen) (h1:1<=n) (h8:n<=8) (hp:p+n<=zs.length):
  Calls prog 235 #[.slice (some ⟨b,off,none⟩) zs.length cap,.int .i64 p,.int .i64 n] w fun e w'=>e=.returned (.tuple #[.int .i64 (capI (num zs p n)),.bool (capB (num zs p n))])/\w=w':=by
 have hi:insB zs.length p n=true:=by simp [insB];omega
 have hm':=hm;unfold maxLen at hm';go_enter func235,ntmps235
 go_wp2_with (go_at_call 262;refine (lies_any _ _ _ _ _ _ hm).mono ?_;rintro e w' ⟨rfl,rfl⟩)
 go_loop [8,9] (fun x i=>∃k:Nat,k<=n/\i=.int .i64 k/\x=.int .u64 (num zs p k)) (fun _ i=>n-(intOf i).toNat)
 case atStart=>exact ⟨0,jT _,rfl,rfl⟩
 case round=>
  obtain ⟨k,hk,rfl,rfl⟩:=hrel;by_cases hlt:k<n
  ·have hc:=hz (p+k) (by omega);have hb7:=XT hb p k (by omega);have HB:Hid (Bys zs):=hb;go_wp2;go_round
   case rel=>exact ⟨k+1,by omega,by go_num,congrArg _ (num_or HB.out p k (by omega))⟩
   case measure=>simp [intOf];omega
  ·have hkn:n=k:=by omega
   subst hkn;have hb0:=(ZJ hb p n).1;by_cases hle:num zs p n<=4611686018427387904
   ·have hle':=hle;go_wp2;go_ret2
    exact ⟨by rw [(QG hle').1,(QG hle').2];rfl,rfl⟩
   ·have hle':=Int.not_le.1 hle;go_wp2;go_ret2
    exact ⟨by rw [(UD hle').1,(UD hle').2];rfl,rfl⟩
theorem refget_no (a:Option Addr) (len cap:Nat) (p n:Int) (w:World) (hm:len<=maxLen) (hi:insB len p n=false):
  Calls prog 235 #[.slice a len cap,.int .i64 p,.int .i64 n] w fun e w'=>e=.returned (.tuple #[.int .i64 0,.bool false])/\w=w':=by
 go_enter func235,ntmps235
 go_wp2_with (go_at_call 262;refine (lies_any _ _ _ _ _ _ hm).mono ?_;rintro e w' ⟨rfl,rfl⟩)
 go_ret2
 exact ⟨rfl,rfl⟩
theorem get_no (a:Option Addr) (len cap:Nat) (p n:Int) (w:World) (hm:len<=maxLen) (hi:insB len p n=false):
  Calls prog 174 #[.slice a len cap,.int .i64 p,.int .i64 n] w fun e w'=>e=.returned (.tuple #[.int .i64 0,.bool false])/\w=w':=by
 go_enter func174,ntmps174
 go_wp2_with (go_at_call 210;refine (QU _ _ _ _ _ _ hm).mono ?_;rintro e w' ⟨rfl,rfl⟩)
 go_ret2
 exact ⟨rfl,rfl⟩
theorem reader_any (v:Value) (a:Option Addr) (len cap:Nat) (w:World) (hv:v=.slice a len cap):
  Calls prog 211 #[v] w fun e w'=>e=.returned (.func (Fn.func 251) #[] #[.pointer (some ⟨w.heap.size,0,none⟩)])/\w'=w.alloc (.cells #[.slice a len cap] 32):=by
 subst hv;go_enter func211,ntmps211
 go_wp2;go_ret
 exact ⟨rfl,rfl⟩
theorem get_yes (b off cap:Nat) (zs:List Int) (p n:Nat) (w:World) (hz:∀i,i<zs.length->w.cell? ⟨b,off+i,none⟩=some (.int .u8 (zs.getD i 0))) (hb:Bys zs) (hl:zs.length<=cap) (hcap:cap<=maxLen) (h1:1<=n) (h8:n<=8) (hp:p+n<=zs.length):
  Calls prog 174 #[.slice (some ⟨b,off,none⟩) zs.length cap,.int .i64 p,.int .i64 n] w fun e w'=>e=.returned (.tuple #[.int .i64 (capI (num zs p n)),.bool (capB (num zs p n))])/\Below w.heap.size w w':=by
 have hi:insB zs.length p n=true:=by simp [insB];omega
 have hm:zs.length<=maxLen:=by omega
 have hm':=hcap;unfold maxLen at hm';have hbl:b<w.heap.size:=block_lt_of_cell (hz 0 (by omega));go_enter func174,ntmps174
 go_wp2_with (first|(go_at_call 210;refine (QU _ _ _ _ _ _ hm).mono ?_;rintro e w' ⟨rfl,rfl⟩)|(go_at_call 211;refine (reader_any _ _ _ _ _ rfl).mono ?_;rintro e w' ⟨rfl,rfl⟩))
 go_loopw [9,23] (fun x i wr=>∃k o c:Nat,k<=n/\i=.int .i64 k/\x=.int .u64 (num zs p k)/\wr.cell? ⟨w.heap.size,0,none⟩=some (.slice (some ⟨b,o,none⟩) (n-k) c)/\(k<n->o=off+(p+k)/\n-k<=c/\c<=cap)/\wr.frozen? ⟨w.heap.size,0,none⟩=false/\Below w.heap.size w wr) (fun _ i _=>n-(intOf i).toNat)
 case atStart=>exact ⟨0,off+p,cap-p,jT _,rfl,rfl,by simp,fun _=>⟨by omega,by omega,by omega⟩,by simp,(Below.refl _ _).alloc (jB _) _⟩
 case round=>
  obtain ⟨k,o,c,hk,rfl,rfl,hbox,hkn,hfr,hbel⟩:=hrel;by_cases hlt:k<n
  ·obtain ⟨ho,hc1,hc2⟩:=hkn hlt;subst ho;obtain ⟨m,hnm⟩:∃m,n-k=m+1:=⟨n-k-1,by omega⟩;rw [hnm] at hbox hc1;have HNM:Hid (n-k=m+1):=hnm;clear hnm;have hc:=(hbel.cell (p:=⟨b,off+(p+k),none⟩) hbl).trans (hz (p+k) (by omega));have hb7:=XT hb p k (by omega);have HB:Hid (Bys zs):=hb;have hmx:c<=maxLen:=by omega
   go_wp2_with (go_at_call 251;refine (rnext_any _ _ _ _ _ _ _ hbox hfr hc hc1 hmx).mono ?_;rintro e w1 ⟨rfl,o',ho',rfl⟩)
   go_roundw
   case rel=>exact ⟨k+1,o',c-1,by omega,by go_num,congrArg _ (num_or HB.out p k (by omega)),(by rw [World.cell?_setCell_same _ _ _ hbox];have:=HNM.out;rw [show n-(k+1)=m from by omega]),(fun h=>⟨by rw [ho' (by have:=HNM.out;omega)];omega,by have:=HNM.out;omega,by omega⟩),(by rw [World.frozen?_setCell];exact hfr),hbel.setCell (jB _) _⟩
   case measure=>simp [intOf];omega
  ·have hkn:n=k:=by omega
   subst hkn;have hb0:=(ZJ hb p n).1;by_cases hle:num zs p n<=4611686018427387904
   ·have hle':=hle;go_wp2;go_ret2
    exact ⟨by rw [(QG hle').1,(QG hle').2];rfl,hbel⟩
   ·have hle':=Int.not_le.1 hle;go_wp2;go_ret2
    exact ⟨by rw [(UD hle').1,(UD hle').2];rfl,hbel⟩
def getI (zs:List Int) (p n:Int):Int:=if insB zs.length p n then capI (num zs p.toNat n.toNat) else 0
def getB (zs:List Int) (p n:Int):Bool:=if insB zs.length p n then capB (num zs p.toNat n.toNat) else false
theorem uP {len:Nat} {p n:Int} (h:insB len p n=true):1<=n/\n<=8/\0<=p/\p<=(len:Int)-n:=by simpa [insB] using h
theorem UV (a:Option Addr) (cap:Nat) (zs:List Int) (p n:Int) (w:World) (h:Row w a cap zs):
  Calls prog 174 #[.slice a zs.length cap,.int .i64 p,.int .i64 n] w fun e w'=>e=.returned (.tuple #[.int .i64 (getI zs p n),.bool (getB zs p n)])/\Below w.heap.size w w':=by
 obtain ⟨h1,h2,h3,h4⟩:=h;by_cases hi:insB zs.length p n=true
 ·have hv:=uP hi;obtain ⟨p',rfl⟩:=jW hv.2.2.1;obtain ⟨n',rfl⟩:=jW (show 0<=n by omega);rcases h4 with rfl|⟨b,off,rfl,hc⟩
  ·simp at hv;omega
  ·have e1:getI zs p' n'=capI (num zs p' n'):=by simp [getI,hi]
   have e2:getB zs p' n'=capB (num zs p' n'):=by simp [getB,hi]
   rw [e1,e2];exact get_yes b off cap zs p' n' w hc h1 h2 h3 (by omega) (by omega) (by omega)
 ·have hi':insB zs.length p n=false:=by simpa using hi
  have e1:getI zs p n=0:=by simp [getI,hi']
  have e2:getB zs p n=false:=by simp [getB,hi']
  rw [e1,e2];refine (get_no a zs.length cap p n w (by omega) hi').mono ?_;rintro e w' ⟨rfl,rfl⟩;exact ⟨rfl,Below.refl _ _⟩
theorem refget_any (a:Option Addr) (cap:Nat) (zs:List Int) (p n:Int) (w:World) (h:Row w a cap zs):
  Calls prog 235 #[.slice a zs.length cap,.int .i64 p,.int .i64 n] w fun e w'=>e=.returned (.tuple #[.int .i64 (getI zs p n),.bool (getB zs p n)])/\w=w':=by
 obtain ⟨h1,h2,h3,h4⟩:=h;by_cases hi:insB zs.length p n=true
 ·have hv:=uP hi;obtain ⟨p',rfl⟩:=jW hv.2.2.1;obtain ⟨n',rfl⟩:=jW (show 0<=n by omega);rcases h4 with rfl|⟨b,off,rfl,hc⟩
  ·simp at hv;omega
  ·have e1:getI zs p' n'=capI (num zs p' n'):=by simp [getI,hi]
   have e2:getB zs p' n'=capB (num zs p' n'):=by simp [getB,hi]
   rw [e1,e2];exact refget_yes b off cap zs p' n' w hc h1 (by omega) (by omega) (by omega) (by omega)
 ·have hi':insB zs.length p n=false:=by simpa using hi
  have e1:getI zs p n=0:=by simp [getI,hi']
  have e2:getB zs p n=false:=by simp [getB,hi']
  rw [e1,e2];exact refget_no a zs.length cap p n w (by omega) hi'
def lay (zs:List Int) (f:Nat->Bool) (g:Nat->Int):List Int:=(List.range zs.length).map fun i=>if f i then g i else zs.getD i 0
theorem XW (zs:List Int) (f:Nat->Bool) (g:Nat->Int):(lay zs f g).length=zs.length:=by simp [lay]
theorem kM (zs:List Int) (f:Nat->Bool) (g:Nat->Int) (i:Nat) (hi:i<zs.length):(lay zs f g).getD i 0=if f i then g i else zs.getD i 0:=by
 unfold lay;rw [jA,qH,List.getElem?_range hi];rfl
theorem ZZ {xs ys:List Int} (hl:xs.length=ys.length) (h:∀i,i<xs.length->xs.getD i 0=ys.getD i 0):xs=ys:=by
 refine List.ext_getElem hl fun i h1 h2=>?_
 have:=h i h1;rw [jA,jA,jC h1,jC h2] at this;exact this
theorem set_at (zs:List Int) (j:Nat) (y:Int) (i:Nat) (hi:i<zs.length):(zs.set j y).getD i 0=if i=j then y else zs.getD i 0:=by
 rw [jA,jA,yD];by_cases h:i=j
 ·subst h;simp [hi]
 ·simp [h,show ¬j=i by omega]
theorem lay_set (zs:List Int) (f f':Nat->Bool) (g:Nat->Int) (j:Nat) (hj:f' j=true) (hf:∀i,i≠j->f' i=f i):(lay zs f g).set j (g j)=lay zs f' g:=by
 refine ZZ (by simp [XW]) fun i hi=>?_
 rw [jY,XW] at hi;rw [set_at _ _ _ _ (by rw [XW];exact hi),kM _ _ _ _ hi,kM _ _ _ _ hi];by_cases h:i=j
 ·subst h;simp [hj]
 ·simp [h,hf i h]
theorem lay_none (zs:List Int) (f:Nat->Bool) (g:Nat->Int) (h:∀i,f i=false):lay zs f g=zs:=by
 refine ZZ (XW ..) fun i hi=>?_
 rw [XW] at hi;rw [kM _ _ _ _ hi,h i];rfl
theorem lay_congr (zs:List Int) (f f':Nat->Bool) (g:Nat->Int) (h:∀i,f i=f' i):lay zs f g=lay zs f' g:=by
 unfold lay
 congr 1
 funext i
 rw [h i]
theorem lay_bys {zs:List Int} (hz:Bys zs) (f:Nat->Bool) (g:Nat->Int) (hg:∀i,0<=g i/\g i<=255):Bys (lay zs f g):=by
 intro z hm;unfold lay at hm;rw [List.mem_map] at hm;obtain ⟨i,_,rfl⟩:=hm;split
 ·exact hg i
 ·exact hz.at i
def dgt (X p n i:Nat):Int:=((X/256^(p+n-1-i)%256:Nat):Int)
theorem dgt_bd (X p n i:Nat):0<=dgt X p n i/\dgt X p n i<=255:=by unfold dgt;omega
def putL (zs:List Int) (p n X:Nat):List Int:=lay zs (fun i=>decide (p<=i/\i<p+n)) (dgt X p n)
theorem uH (zs:List Int) (p n X:Nat):(putL zs p n X).length=zs.length:=XW ..
theorem putL_bys {zs:List Int} (hz:Bys zs) (p n X:Nat):Bys (putL zs p n X):=lay_bys hz _ _ (dgt_bd X p n)
theorem div_step (X m:Nat):X/256^(m+1)*256+X/256^m%256=X/256^m:=by
 rw [Nat.pow_succ,<-Nat.div_div_eq_div_mul];omega
theorem num_putL (zs:List Int) (p n X:Nat) (hp:p+n<=zs.length) (hX:X<256^n):∀k,k<=n->num (putL zs p n X) p k=((X/256^(n-k):Nat):Int):=by
 intro k
 induction k with
 |zero=>
  intro _;rw [Nat.sub_zero,Nat.div_eq_of_lt hX];rfl
 |succ k ih=>
  intro hk;rw [XK,ih (by omega)]
  have e:(putL zs p n X).getD (p+k) 0=dgt X p n (p+k):=by
   unfold putL;rw [kM _ _ _ _ (by omega)];simp;omega
  rw [e];unfold dgt;have:=div_step X (n-(k+1));rw [show n-k=n-(k+1)+1 from by omega,show p+n-1-(p+k)=n-(k+1) from by omega];omega
theorem num_put (zs:List Int) (p n X:Nat) (hp:p+n<=zs.length) (hX:X<256^n):num (putL zs p n X) p n=(X:Int):=by
 rw [num_putL zs p n X hp hX n (jB _)];simp
def down (zs:List Int) (p n X j:Nat):List Int:=lay zs (fun i=>decide (p+n<=i+j/\i<p+n)) (dgt X p n)
theorem down_zero (zs:List Int) (p n X:Nat):down zs p n X 0=zs:=lay_none _ _ _ fun i=>by simp
theorem down_all (zs:List Int) (p n X:Nat):down zs p n X n=putL zs p n X:=lay_congr _ _ _ _ fun i=>by simp
theorem down_len (zs:List Int) (p n X j:Nat):(down zs p n X j).length=zs.length:=XW ..
theorem down_next (zs:List Int) (p n X j:Nat) (hj:j<n):(down zs p n X j).set (p+n-1-j) ((X/256^j%256:Nat):Int)=down zs p n X (j+1):=by
 have e:((X/256^j%256:Nat):Int)=dgt X p n (p+n-1-j):=by
  unfold dgt;rw [show p+n-1-(p+n-1-j)=j from by omega]
 rw [e];exact lay_set _ _ _ _ _ (by simp;omega) (fun i hi=>by rw [yE];simp;omega)
end Go.Proofs.YtaijfhadecennaaGreat.Oct
