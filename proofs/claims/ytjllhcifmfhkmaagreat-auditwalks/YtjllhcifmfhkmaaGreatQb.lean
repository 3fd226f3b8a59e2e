/- Part of a proof. -/
import Derived.Test.YtjllhcifmfhkmaaGreatCp
import Derived.Laws.CopyOwn
namespace Go.Proofs.YtjllhcifmfhkmaaGreat.Oct
open Go.RowKit
def getI (zs:List Int) (p n:Int):Int:=if insB zs.length p n then capI (num zs p.toNat n.toNat) else 0
def getB (zs:List Int) (p n:Int):Bool:=if insB zs.length p n then capB (num zs p.toNat n.toNat) else false
theorem insB_yes {len:Nat} {p n:Int} (h:insB len p n=true):1≤n∧n≤8∧0≤p∧p≤(len:Int)-n:=by simpa [insB] using h
theorem get_any (a:Option Addr) (cap:Nat) (zs:List Int) (p n:Int) (w:World) (h:Row w a cap zs):
  Calls Tryz.prog 103 #[.slice a zs.length cap,.int .i64 p,.int .i64 n] w fun e w'=>e=.returned (.tuple #[.int .i64 (getI zs p n),.bool (getB zs p n)])∧Below w.heap.size w w':=by
 obtain ⟨h1,h2,h3,h4⟩:=h;by_cases hi:insB zs.length p n=true
 ·have hv:=insB_yes hi;obtain ⟨p',rfl⟩:=Int.eq_ofNat_of_zero_le hv.2.2.1;obtain ⟨n',rfl⟩:=Int.eq_ofNat_of_zero_le (show 0≤n by omega);rcases h4 with rfl|⟨b,off,rfl,hc⟩
  ·simp at hv;omega
  ·have e1:getI zs p' n'=capI (num zs p' n'):=by simp [getI,hi]
   have e2:getB zs p' n'=capB (num zs p' n'):=by simp [getB,hi]
   rw [e1,e2];exact get_yes b off cap zs p' n' w hc h1 h2 h3 (by omega) (by omega) (by omega)
 ·have hi':insB zs.length p n=false:=by simpa using hi
  have e1:getI zs p n=0:=by simp [getI,hi']
  have e2:getB zs p n=false:=by simp [getB,hi']
  rw [e1,e2];refine (get_no a zs.length cap p n w (by omega) hi').mono ?_;rintro e w' ⟨rfl,rfl⟩;exact ⟨rfl,Below.refl _ _⟩
theorem refget_any (a:Option Addr) (cap:Nat) (zs:List Int) (p n:Int) (w:World) (h:Row w a cap zs):
  Calls Tryz.prog 116 #[.slice a zs.length cap,.int .i64 p,.int .i64 n] w fun e w'=>e=.returned (.tuple #[.int .i64 (getI zs p n),.bool (getB zs p n)])∧w=w':=by
 obtain ⟨h1,h2,h3,h4⟩:=h;by_cases hi:insB zs.length p n=true
 ·have hv:=insB_yes hi;obtain ⟨p',rfl⟩:=Int.eq_ofNat_of_zero_le hv.2.2.1;obtain ⟨n',rfl⟩:=Int.eq_ofNat_of_zero_le (show 0≤n by omega);rcases h4 with rfl|⟨b,off,rfl,hc⟩
  ·simp at hv;omega
  ·have e1:getI zs p' n'=capI (num zs p' n'):=by simp [getI,hi]
   have e2:getB zs p' n'=capB (num zs p' n'):=by simp [getB,hi]
   rw [e1,e2];exact refget_yes b off cap zs p' n' w hc h1 (by omega) (by omega) (by omega) (by omega)
 ·have hi':insB zs.length p n=false:=by simpa using hi
  have e1:getI zs p n=0:=by simp [getI,hi']
  have e2:getB zs p n=false:=by simp [getB,hi']
  rw [e1,e2];exact refget_no a zs.length cap p n w (by omega) hi'
def lay (zs:List Int) (f:Nat→Bool) (g:Nat→Int):List Int:=(List.range zs.length).map fun i=>if f i then g i else zs.getD i 0
theorem lay_len (zs:List Int) (f:Nat→Bool) (g:Nat→Int):(lay zs f g).length=zs.length:=by simp [lay]
theorem lay_at (zs:List Int) (f:Nat→Bool) (g:Nat→Int) (i:Nat) (hi:i<zs.length):(lay zs f g).getD i 0=if f i then g i else zs.getD i 0:=by
 unfold lay;rw [List.getD_eq_getElem?_getD,List.getElem?_map,List.getElem?_range hi];rfl
theorem row_ext {xs ys:List Int} (hl:xs.length=ys.length) (h:∀i,i<xs.length→xs.getD i 0=ys.getD i 0):xs=ys:=by
 refine List.ext_getElem hl fun i h1 h2=>?_
 have:=h i h1;rw [List.getD_eq_getElem?_getD,List.getD_eq_getElem?_getD,List.getElem?_eq_getElem h1,List.getElem?_eq_getElem h2] at this;exact this
theorem set_at (zs:List Int) (j:Nat) (y:Int) (i:Nat) (hi:i<zs.length):(zs.set j y).getD i 0=if i=j then y else zs.getD i 0:=by
 rw [List.getD_eq_getElem?_getD,List.getD_eq_getElem?_getD,List.getElem?_set];by_cases h:i=j
 ·subst h;simp [hi]
 ·simp [h,show ¬j=i by omega]
theorem lay_set (zs:List Int) (f f':Nat→Bool) (g:Nat→Int) (j:Nat) (hj:f' j=true) (hf:∀i,i≠j→f' i=f i):(lay zs f g).set j (g j)=lay zs f' g:=by
 refine row_ext (by simp [lay_len]) fun i hi=>?_
 rw [List.length_set,lay_len] at hi;rw [set_at _ _ _ _ (by rw [lay_len];exact hi),lay_at _ _ _ _ hi,lay_at _ _ _ _ hi];by_cases h:i=j
 ·subst h;simp [hj]
 ·simp [h,hf i h]
theorem lay_none (zs:List Int) (f:Nat→Bool) (g:Nat→Int) (h:∀i,f i=false):lay zs f g=zs:=by
 refine row_ext (lay_len ..) fun i hi=>?_
 rw [lay_len] at hi;rw [lay_at _ _ _ _ hi,h i];rfl
theorem lay_bys {zs:List Int} (hz:Bys zs) (f:Nat→Bool) (g:Nat→Int) (hg:∀i,0≤g i∧g i≤255):Bys (lay zs f g):=by
 intro z hm;unfold lay at hm;rw [List.mem_map] at hm;obtain ⟨i,_,rfl⟩:=hm;split
 ·exact hg i
 ·exact hz.at i
def dgt (X p n i:Nat):Int:=((X/256^(p+n-1-i)%256:Nat):Int)
theorem dgt_bd (X p n i:Nat):0≤dgt X p n i∧dgt X p n i≤255:=by unfold dgt;omega
def putL (zs:List Int) (p n X:Nat):List Int:=lay zs (fun i=>decide (p≤i∧i<p+n)) (dgt X p n)
theorem putL_len (zs:List Int) (p n X:Nat):(putL zs p n X).length=zs.length:=lay_len ..
theorem putL_bys {zs:List Int} (hz:Bys zs) (p n X:Nat):Bys (putL zs p n X):=lay_bys hz _ _ (dgt_bd X p n)
theorem div_step (X m:Nat):X/256^(m+1)*256+X/256^m%256=X/256^m:=by
 rw [Nat.pow_succ,←Nat.div_div_eq_div_mul];omega
theorem num_putL (zs:List Int) (p n X:Nat) (hp:p+n≤zs.length) (hX:X<256^n):∀k,k≤n→num (putL zs p n X) p k=((X/256^(n-k):Nat):Int):=by
 intro k
 induction k with
 |zero=>
  intro _;rw [Nat.sub_zero,Nat.div_eq_of_lt hX];rfl
 |succ k ih=>
  intro hk;rw [num_succ,ih (by omega)]
  have e:(putL zs p n X).getD (p+k) 0=dgt X p n (p+k):=by
   unfold putL;rw [lay_at _ _ _ _ (by omega)];simp;omega
  rw [e];unfold dgt;have:=div_step X (n-(k+1));rw [show n-k=n-(k+1)+1 from by omega,show p+n-1-(p+k)=n-(k+1) from by omega];omega
theorem num_put (zs:List Int) (p n X:Nat) (hp:p+n≤zs.length) (hX:X<256^n):num (putL zs p n X) p n=(X:Int):=by
 rw [num_putL zs p n X hp hX n (Nat.le_refl _)];simp
def upto (zs:List Int) (p n X j:Nat):List Int:=lay zs (fun i=>decide (p≤i∧i<p+j)) (dgt X p n)
theorem upto_zero (zs:List Int) (p n X:Nat):upto zs p n X 0=zs:=lay_none _ _ _ fun i=>by simp
theorem upto_all (zs:List Int) (p n X:Nat):upto zs p n X n=putL zs p n X:=rfl
theorem upto_len (zs:List Int) (p n X j:Nat):(upto zs p n X j).length=zs.length:=lay_len ..
theorem upto_next (zs:List Int) (p n X j:Nat) (hj:j<n):(upto zs p n X j).set (p+j) ((X/256^(n-1-j)%256:Nat):Int)=upto zs p n X (j+1):=by
 have e:((X/256^(n-1-j)%256:Nat):Int)=dgt X p n (p+j):=by
  unfold dgt;rw [show p+n-1-(p+j)=n-1-j from by omega]
 rw [e];exact lay_set _ _ _ _ _ (by simp) (fun i hi=>by rw [Bool.eq_iff_iff];simp;omega)
def fitB (n x:Int):Bool:=decide (0≤x∧x≤4611686018427387904∧x<256^n.toNat)
theorem fit_yes {n X:Nat} (hX:X≤4611686018427387904) (hXn:X<256^n):fitB n X=true:=by
 unfold fitB;refine decide_eq_true ⟨by omega,by omega,?_⟩;rw [Int.toNat_natCast];have h:((X:Nat):Int)<((256^n:Nat):Int):=Int.ofNat_lt.2 hXn;rw [Int.natCast_pow] at h;exact h
end Go.Proofs.YtjllhcifmfhkmaaGreat.Oct
