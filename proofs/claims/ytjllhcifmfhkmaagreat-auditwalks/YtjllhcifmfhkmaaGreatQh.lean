/- Part of a proof. -/
import Derived.Test.YtjllhcifmfhkmaaGreatQb
import Derived.Test.YtjllhcifmfhkmaaGreatR
set_option maxHeartbeats 1000000
namespace Go.Proofs.YtjllhcifmfhkmaaGreat.Oct
open Go.RowKit
theorem pow_eq (n:Nat):(2:Int)^(8*n)=256^n:=by
 rw [Int.pow_mul];rfl
theorem wrap_pow {n X:Nat} (hn:n<8) (h:X<256^n):(X:Int)<wrap64 (2^(8*n)):=by
 rw [pow_eq];have:n=0∨n=1∨n=2∨n=3∨n=4∨n=5∨n=6∨n=7:=by omega
 rcases this with rfl|rfl|rfl|rfl|rfl|rfl|rfl|rfl
 all_goals
  rw [IntWalk.wrap64_in _ (by decide)];omega
theorem byte_eq (X m:Nat):((X/256^m%256:Nat):Int)=(X:Int)/2^(8*m)%256:=by
 rw [pow_eq,Int.natCast_emod,Int.natCast_ediv,Int.natCast_pow];rfl
theorem fit_over {n X:Nat} (h1:1≤n) (h8:n≤8) (hX:X≤4611686018427387904) (h:fitB n X=false):n<8∧wrap64 (2^(8*n))≤(X:Int):=by
 have hge:256^n≤X:=by
  by_cases hlt:X<256^n
  ·rw [fit_yes hX hlt] at h;exact absurd h (by decide)
  ·omega
 rw [pow_eq];have:n=1∨n=2∨n=3∨n=4∨n=5∨n=6∨n=7∨n=8:=by omega
 rcases this with rfl|rfl|rfl|rfl|rfl|rfl|rfl|rfl
 case inr.inr.inr.inr.inr.inr.inr=>omega
 all_goals
  rw [IntWalk.wrap64_in _ (by decide)];omega
theorem refput_yes (b off cap:Nat) (zs:List Int) (p n X:Nat) (w:World) (hr:Row w (some ⟨b,off,none⟩) cap zs) (hsz:zs.length≤140737488355328) (h1:1≤n) (h8:n≤8) (hp:p+n≤zs.length) (hX:X≤4611686018427387904) (hXn:X<256^n):
  Calls Tryz.prog 41 #[.slice (some ⟨b,off,none⟩) zs.length cap,.int .i64 p,.int .i64 n,.int .i64 X] w fun e w'=>∃v,e=.returned (.tuple #[v,.bool true])∧Own w.heap.size w' v (putL zs p n X)∧Below w.heap.size w w':=by
 have hi:insB zs.length p n=true:=by simp [insB];omega
 have hm:zs.length≤maxLen:=Nat.le_trans hr.2.1 hr.2.2.1;have hm':=hm;unfold maxLen at hm'
 have hor:(n<8∧(X:Int)<wrap64 (2^(8*n)))∨8≤n:=by
  by_cases h:n<8
  ·exact .inl ⟨h,wrap_pow h hXn⟩
  ·exact .inr (by omega)
 clear hXn;have hx0:(0:Int)≤X:=by omega
 rcases hor with ⟨hn8,hxw⟩|hn8
 all_goals
  go_enter Tryz.func41,Tryz.ntmps41
  go_wp2_with (first|(go_at_call 68;refine (lies_any _ _ _ _ _ _ hm).mono ?_;rintro e w' ⟨rfl,rfl⟩)|(go_at_call 40;refine (copy_any _ _ _ _ hr hsz).mono ?_;rintro e w1 ⟨v,rfl,hown1,hbel1⟩))
  obtain ⟨g,cap',rfl,hgb,_,_,_⟩:=own_at hown1 p (by omega)
  try clear hxw
  go_loopw [11] (fun i wr=>∃k:Nat,k≤n∧i=.int .i64 k∧Own w.heap.size wr (.slice (some ⟨g,0,none⟩) zs.length cap') (upto zs p n X k)∧Below w.heap.size w wr) (fun i _=>n-(intOf i).toNat)
  case atStart=>exact ⟨0,Nat.zero_le _,rfl,by rw [upto_zero];exact hown1,hbel1⟩
  case round=>
   clear hown1 hbel1;obtain ⟨k,hk,rfl,hown,hbel⟩:=hrel;by_cases hlt:k<n
   ·obtain ⟨_,hc,hfr,hst⟩:=own_at' hown (p+k) (by rw [upto_len];omega);obtain ⟨c,hcc⟩:∃c:Int,(upto zs p n X k).getD (p+k) 0=c:=⟨_,rfl⟩;rw [hcc] at hc;have hst':=hst ((X/256^(n-1-k)%256:Nat):Int);rw [upto_next zs p n X k hlt,byte_eq] at hst';have HST:Hid _:=hst';clear hcc hst hst' hown;go_wp2;go_roundw
    case rel=>exact ⟨k+1,by omega,by go_num,HST.out,hbel.setCell hgb _⟩
    case measure=>simp [intOf];omega
   ·have hkn:k=n:=by omega
    subst hkn;rw [upto_all] at hown;go_wp2;go_ret2
    exact ⟨_,rfl,hown,hbel⟩
theorem refput_no (a:Option Addr) (len cap:Nat) (p n x:Int) (w:World) (hm:len≤maxLen) (hi:(insB len p n&&fitB n x)=false):
  Calls Tryz.prog 41 #[.slice a len cap,.int .i64 p,.int .i64 n,.int .i64 x] w fun e w'=>e=.returned (.tuple #[.slice none 0 0,.bool false])∧w=w':=by
 cases hi1:insB len p n
 ·clear hi;go_enter Tryz.func41,Tryz.ntmps41
  go_wp2_with (go_at_call 68;refine (lies_any _ _ _ _ _ _ hm).mono ?_;rintro e w' ⟨rfl,rfl⟩)
  go_ret2
  exact ⟨rfl,rfl⟩
 ·rw [hi1,Bool.true_and] at hi;have hv:=insB_yes hi1;by_cases hx0:x<0
  ·clear hi;go_enter Tryz.func41,Tryz.ntmps41
   go_wp2_with (go_at_call 68;refine (lies_any _ _ _ _ _ _ hm).mono ?_;rintro e w' ⟨rfl,rfl⟩)
   go_ret2
   exact ⟨rfl,rfl⟩
  ·by_cases hx1:4611686018427387904<x
   ·clear hi;go_enter Tryz.func41,Tryz.ntmps41
    go_wp2_with (go_at_call 68;refine (lies_any _ _ _ _ _ _ hm).mono ?_;rintro e w' ⟨rfl,rfl⟩)
    go_ret2
    exact ⟨rfl,rfl⟩
   ·obtain ⟨X,rfl⟩:=Int.eq_ofNat_of_zero_le (show 0≤x by omega);obtain ⟨n',rfl⟩:=Int.eq_ofNat_of_zero_le (show 0≤n by omega);have hw:n'<8∧wrap64 (2^(8*n'))≤(X:Int):=fit_over (by omega) (by omega) (by omega) hi;obtain ⟨hn8,hxw⟩:=hw;clear hi;go_enter Tryz.func41,Tryz.ntmps41
    go_wp2_with (go_at_call 68;refine (lies_any _ _ _ _ _ _ hm).mono ?_;rintro e w' ⟨rfl,rfl⟩)
    go_ret2
    exact ⟨rfl,rfl⟩
def sameB (xs ys:List Int):Bool:=decide (xs=ys)
theorem same_more {xs ys:List Int} {k:Nat} (h:Hid (∀j,j<k→xs.getD j 0=ys.getD j 0)) (e:xs.getD k 0=ys.getD k 0):Hid (∀j,j<k+1→xs.getD j 0=ys.getD j 0):=by
 intro j hj;by_cases hjk:j=k
 ·rw [hjk];exact e
 ·exact h.out j (by omega)
theorem same_any (a b:Option Addr) (cap cap':Nat) (xs ys:List Int) (w:World) (hx:Row w a cap xs) (hy:Row w b cap' ys):
  Calls Tryz.prog 17 #[.slice a xs.length cap,.slice b ys.length cap'] w fun e w'=>e=.returned (.bool (sameB xs ys))∧Below w.heap.size w w':=by
 obtain ⟨_,hx2,hx3,hx4⟩:=hx;obtain ⟨_,hy2,hy3,hy4⟩:=hy;unfold maxLen at hx3 hy3;by_cases hl:xs.length=ys.length
 ·have hlb:((xs.length:Int) !=(ys.length:Int))=false:=by simp [hl]
  have hle:ys.length≤xs.length:=by omega
  have HL:Hid (xs.length=ys.length):=hl;have HX:Hid (xs=[]∨∃b off,a=some ⟨b,off,none⟩∧∀i,i<xs.length→w.cell? ⟨b,off+i,none⟩=some (.int .u8 (xs.getD i 0))):=hx4;have HY:Hid (ys=[]∨∃c off,b=some ⟨c,off,none⟩∧∀i,i<ys.length→w.cell? ⟨c,off+i,none⟩=some (.int .u8 (ys.getD i 0))):=hy4;clear hx4 hy4 hl;go_enter Tryz.func17,Tryz.ntmps17
  go_wp2;go_loopw [5] (fun i wr=>∃k:Nat,k≤xs.length∧i=.int .i64 k∧Hid (∀j,j<k→xs.getD j 0=ys.getD j 0)∧Below w.heap.size w wr) (fun i _=>xs.length-(intOf i).toNat)
  case atStart=>exact ⟨0,Nat.zero_le _,rfl,show Hid _ from fun j hj=>by omega,Below.refl _ _⟩
  case round=>
   obtain ⟨k,hk,rfl,hall,hnx⟩:=hrel;by_cases hlt:k<xs.length
   ·obtain ⟨p,off,rfl,hz⟩:=HX.out.resolve_left (by intro e;rw [e] at hlt;exact absurd hlt (by simp));obtain ⟨p',off',rfl,hz'⟩:=HY.out.resolve_left (by intro e;have:=HL.out;rw [e] at this;rw [this] at hlt;exact absurd hlt (by simp));have hlt':k<ys.length:=by have:=HL.out;omega
    have hc:=(hnx.cell (p:=⟨p,off+k,none⟩) (block_lt_of_cell (hz k hlt))).trans (hz k hlt);have hc':=(hnx.cell (p:=⟨p',off'+k,none⟩) (block_lt_of_cell (hz' k hlt'))).trans (hz' k hlt');clear hz hz';obtain ⟨c,hcc⟩:∃c:Int,xs.getD k 0=c:=⟨_,rfl⟩;obtain ⟨d,hdd⟩:∃d:Int,ys.getD k 0=d:=⟨_,rfl⟩;rw [hcc] at hc;rw [hdd] at hc';have HC:Hid (xs.getD k 0=c):=hcc;have HD:Hid (ys.getD k 0=d):=hdd;clear hcc hdd;by_cases hcd:c=d
    ·have hcb:(c !=d)=false:=by simp [hcd]
     have HE:Hid (c=d):=hcd;clear hcd;go_wp2;go_region
     all_goals (try go_wp2)
     all_goals
      go_roundw
      case rel=>exact ⟨k+1,by omega,by go_num,same_more hall (HC.out.trans (HE.out.trans HD.out.symm)),hnx.drew⟩
      case measure=>simp [intOf];omega
    ·have hcb:(c !=d)=true:=by simpa using hcd
     have hs:sameB xs ys=false:=by
      simp [sameB];intro e;apply hcd;rw [←HC.out,←HD.out,e]
     go_wp2;go_region
     all_goals (try go_wp2)
     all_goals
      go_ret
      exact ⟨by rw [hs];rfl,hnx.drew⟩
   ·have hs:sameB xs ys=true:=by
     have e:=eq_of_getD HL.out (fun i hi=>hall.out i (by omega));simp [sameB,e]
    go_wp2;go_ret
    exact ⟨by rw [hs];rfl,hnx⟩
 ·have hlb:((xs.length:Int) !=(ys.length:Int))=true:=by simp;omega
  have hs:sameB xs ys=false:=by simp [sameB];intro e;exact hl (by rw [e])
  rw [hs];go_enter Tryz.func17,Tryz.ntmps17
  go_wp2;go_ret
  exact ⟨rfl,Below.refl _ _⟩
def putB (zs:List Int) (p n x:Int):Bool:=insB zs.length p n&&fitB n x
def putR (zs:List Int) (p n x:Int):List Int:=if putB zs p n x then putL zs p.toNat n.toNat x.toNat else []
theorem putR_bys {zs:List Int} (h:Bys zs) (p n x:Int):Bys (putR zs p n x):=by
 unfold putR;split
 ·exact putL_bys h _ _ _
 ·intro z hz;simp at hz
theorem fit_out {n x:Int} (h:fitB n x=true):0≤x∧x≤4611686018427387904∧x<256^n.toNat:=of_decide_eq_true h
theorem put_parts {zs:List Int} {p n x:Int} (h:putB zs p n x=true):
  ∃p' n' X:Nat,p=p'∧n=n'∧x=X∧1≤n'∧n'≤8∧p'+n'≤zs.length∧X≤4611686018427387904∧X<256^n':=by
 unfold putB at h;rw [Bool.and_eq_true] at h;have h1:=insB_yes h.1;have h2:=fit_out h.2;obtain ⟨p',rfl⟩:=Int.eq_ofNat_of_zero_le h1.2.2.1;obtain ⟨n',rfl⟩:=Int.eq_ofNat_of_zero_le (show 0≤n by omega);obtain ⟨X,rfl⟩:=Int.eq_ofNat_of_zero_le h2.1;refine ⟨p',n',X,rfl,rfl,rfl,by omega,by omega,by omega,by omega,?_⟩;have h3:=h2.2.2;rw [Int.toNat_natCast] at h3;have h4:((X:Nat):Int)<((256^n':Nat):Int):=by rw [Int.natCast_pow];exact h3
 exact Int.ofNat_lt.1 h4
theorem refput_any (a:Option Addr) (cap:Nat) (zs:List Int) (p n x:Int) (w:World) (h:Row w a cap zs) (hsz:zs.length≤140737488355328):
  Calls Tryz.prog 41 #[.slice a zs.length cap,.int .i64 p,.int .i64 n,.int .i64 x] w fun e w'=>∃v,e=.returned (.tuple #[v,.bool (putB zs p n x)])∧Own w.heap.size w' v (putR zs p n x)∧Below w.heap.size w w':=by
 by_cases hb:putB zs p n x=true
 ·obtain ⟨p',n',X,rfl,rfl,rfl,h1,h8,hp,hX,hXn⟩:=put_parts hb;have hr:=h;obtain ⟨_,g2,g3,g4⟩:=h;rcases g4 with rfl|⟨b,off,rfl,hc⟩
  ·simp at hp;omega
  ·have e:putR zs p' n' X=putL zs p' n' X:=by simp [putR,hb]
   rw [e,hb];exact refput_yes b off cap zs p' n' X w hr hsz h1 h8 hp hX hXn
 ·have hb':putB zs p n x=false:=by simpa using hb
  have e:putR zs p n x=[]:=by simp [putR,hb']
  rw [e,hb'];refine (refput_no a zs.length cap p n x w (Nat.le_trans h.2.1 h.2.2.1) hb').mono ?_;rintro e w' ⟨rfl,rfl⟩;exact ⟨_,rfl,World.ownsRow_nil _ _ _ _,Below.refl _ _⟩
end Go.Proofs.YtjllhcifmfhkmaaGreat.Oct
