/- Part of a proof. -/
import Derived.Test.YtaijfhadecennaaGreatR
import Derived.Test.YtaijfhadecennaaGreatQm
import Derived.Laws.CopyOwn
open Go.Proofs.Tryz
set_option maxHeartbeats 1000000
namespace Go.Proofs.YtaijfhadecennaaGreat.Oct
open Go.RowKit
def fitB (n x:Int):Bool:=decide (0<=x/\x<=4611686018427387904/\x<256^n.toNat)
theorem VT {a b:Bool} (h:a=b):Ending.returned (.bool a)=.returned (.bool b):=by rw [h]
theorem fit_eq {x:Int} (h0:0<=x) (h2:x<=4611686018427387904) (n c:Int) (hc:c=256^n.toNat) (hp:0<c):(x/c==0)=fitB n x:=by
 unfold fitB;rw [<-hc,yE];simp only [yF,jR];constructor
 ·intro h;refine ⟨h0,h2,?_⟩;have:=Int.emod_lt_of_pos x hp;have e:=Int.mul_ediv_add_emod x c;rw [h] at e;omega
 ·intro h;exact Int.ediv_eq_zero_of_lt h0 h.2.2
theorem fit_no {n x:Int} (h:¬(0<=x/\x<=4611686018427387904)):fitB n x=false:=by
 unfold fitB;simp only [decide_eq_false_iff_not];omega
theorem fits_any (n x:Int) (w:World) (h1:1<=n) (h8:n<=8) (hx:x<=9223372036854775807):
  Calls prog 213 #[.int .i64 n,.int .i64 x] w fun e w'=>e=.returned (.bool (fitB n x))/\w=w':=by
 by_cases h0:0<=x
 ·by_cases h2:x<=4611686018427387904
  ·have:n=1\/n=2\/n=3\/n=4\/n=5\/n=6\/n=7\/n=8:=by omega
   rcases this with rfl|rfl|rfl|rfl|rfl|rfl|rfl|rfl
   all_goals
    go_enter func213,ntmps213
    go_wp2;go_ret
    exact ⟨VT (fit_eq h0 h2 _ _ (by decide) (by decide)),rfl⟩
  ·go_enter func213,ntmps213
   go_wp2;go_ret
   exact ⟨VT (fit_no (by omega)).symm,rfl⟩
 ·go_enter func213,ntmps213
  go_wp2;go_ret
  exact ⟨VT (fit_no (by omega)).symm,rfl⟩
theorem put_no (a:Option Addr) (len cap:Nat) (p n x:Int) (w:World) (hm:len<=maxLen) (hx:x<=9223372036854775807) (hi:(insB len p n&&fitB n x)=false):
  Calls prog 183 #[.slice a len cap,.int .i64 p,.int .i64 n,.int .i64 x] w fun e w'=>e=.returned (.tuple #[.slice none 0 0,.bool false])/\w=w':=by
 cases hi1:insB len p n
 ·clear hi;go_enter func183,ntmps183
  go_wp2_with (go_at_call 210;refine (QU _ _ _ _ _ _ hm).mono ?_;rintro e w' ⟨rfl,rfl⟩)
  go_ret2
  exact ⟨rfl,rfl⟩
 ·rw [hi1,xP] at hi;have hv:=uP hi1;go_enter func183,ntmps183
  go_wp2_with (first|(go_at_call 210;refine (QU _ _ _ _ _ _ hm).mono ?_;rintro e w' ⟨rfl,rfl⟩)|(go_at_call 213;refine (fits_any _ _ _ hv.1 hv.2.1 hx).mono ?_;rintro e w' ⟨rfl,rfl⟩))
  go_ret2
  exact ⟨rfl,rfl⟩
theorem fit_yes {n X:Nat} (hX:X<=4611686018427387904) (hXn:X<256^n):fitB n X=true:=by
 unfold fitB;refine jE ⟨by omega,by omega,?_⟩;rw [jS];have h:((X:Nat):Int)<((256^n:Nat):Int):=Int.ofNat_lt.2 hXn;rw [Int.natCast_pow] at h;exact h
theorem made_cells {base g n:Nat} {w:World} {xs:List Value} (h:w.ownsRow base 5 1 (.slice (some ⟨g,0,none⟩) n n) n xs):
  ∃cur:List Value,Hid (w.heap[g]?=some (.cells cur.toArray 5 (0,0)))/\Hid (cur.length=n):=by
 obtain ⟨_,⟨h',_⟩|⟨g',cap',cur,h',_,hg,_,_,hs,_⟩⟩:=h
 ·simp at h'
 ·simp only [Value.slice.injEq,jQ,Addr.mk.injEq,and_true,true_and] at h';obtain ⟨rfl,rfl⟩:=h';exact ⟨cur.toList,show _=_ by simpa using hg,show _=_ by simpa using hs⟩
theorem gR {B g:Nat} {w:World} {cur:List Value} {zs:List Int} (hg:B<=g) (hm:zs.length<=maxLen) (hl:cur.length=zs.length)
  (h:w.heap[g]?=some (.cells (splice cur 0 (zs.map (Value.int .u8))).toArray 5 (0,0))):Own B w (.slice (some ⟨g,0,none⟩) zs.length zs.length) zs:=by
 have e:splice cur 0 (zs.map (Value.int .u8))=zs.map (Value.int .u8):=by
  simp [splice];omega
 rw [e] at h;refine ⟨by simp,.inr ⟨g,zs.length,_,rfl,hg,h,jB _,hm,by simp,qR (by simp)⟩⟩
theorem src_cells {w:World} {b off:Nat} {zs:List Int} (hz:∀i,i<zs.length->w.cell? ⟨b,off+i,none⟩=some (.int .u8 (zs.getD i 0))):
  ∀j v,(zs.map (Value.int .u8))[j]?=some v->w.cell? ((⟨b,off,none⟩:Addr).add j)=some v:=by
 intro j v hj
 have hlt:j<zs.length:=by
  have:=(List.getElem?_eq_some_iff.1 hj).1
  simpa using this
 have e:(⟨b,off,none⟩:Addr).add j=⟨b,off+j,none⟩:=by simp [Addr.add]
 rw [e,hz j hlt,<-hj];simp [hlt]
set_option maxRecDepth 4000 in
theorem put_yes (b off cap:Nat) (zs:List Int) (p n X:Nat) (w:World) (hz:∀i,i<zs.length->w.cell? ⟨b,off+i,none⟩=some (.int .u8 (zs.getD i 0))) (hl:zs.length<=cap) (hcap:cap<=maxLen) (hsz:zs.length<=140737488355328) (h1:1<=n) (h8:n<=8) (hp:p+n<=zs.length) (hX:X<=4611686018427387904) (hXn:X<256^n):
  Calls prog 183 #[.slice (some ⟨b,off,none⟩) zs.length cap,.int .i64 p,.int .i64 n,.int .i64 X] w fun e w'=>∃v,e=.returned (.tuple #[v,.bool true])/\Own w.heap.size w' v (putL zs p n X)/\Below w.heap.size w w':=by
 obtain ⟨i0,hi0,hz0,hz1,hz2⟩:=info_parts info5;have hi:insB zs.length p n=true:=by simp [insB];omega
 have hf:fitB n X=true:=fit_yes hX hXn;have hm:zs.length<=maxLen:=by omega
 have hm':=hcap;unfold maxLen at hm';clear hXn;go_enter func183,ntmps183
 have HZ:Hid (∀i,i<zs.length->w.cell? ⟨b,off+i,none⟩=some (.int .u8 (zs.getD i 0))):=hz;have hbl:b<w.heap.size:=block_lt_of_cell (hz 0 (by omega));clear hz;have hs1:(prog.info? 5).map (·.size)=some 1:=by rw [hi0];simp [hz1]
 have HS1:Hid ((prog.info? 5).map (·.size)=some 1):=hs1;clear hs1;go_wp2_with (first|(go_at_call 210;refine (QU _ _ _ _ _ _ hm).mono ?_;rintro e w' ⟨rfl,rfl⟩)|(go_at_call 213;refine (fits_any _ _ _ (by omega) (by omega) (by omega)).mono ?_;rintro e w' ⟨rfl,rfl⟩)|(at_make;refine wpList_make_full _ rfl _ _ 32 rfl w.heap.size 5 i0 (.int .u8 0) 1 underlying32 hi0 hz0 hz1 .i64 .i64 _ _ zs.length rfl rfl rfl rfl (by rw [hz2];omega) hm (jB _) ?_;intro w1 hown1 hgrow1;obtain ⟨cur,hcur,hcl⟩:=made_cells hown1;have hbel1:Below w.heap.size w w1:=(Below.refl w.heap.size w).grown hgrow1 (jB _) (by simp);clear hown1 hgrow1)|(refine wpList_copy_splice rfl (.tmp 26) (.tmp 27) 32 32 rfl 5 underlying32 HS1.out _ _ _ _ _ _ rfl rfl w.heap.size 0 cur 5 hcur.out (zs.map (Value.int .u8)) (by simp) (fun _=>⟨rfl,_,rfl,src_cells (fun i hi=>(hbel1.cell (p:=⟨b,off+i,none⟩) hbl).trans (HZ.out i hi))⟩) (by rw [hcl.out];simp) (ints_oneCell _ _) w.heap.size w hbel1 (jB _) ?_;intro w2 hcells hbel2))
 have hown2:=gR (jB _) hm hcl.out hcells.out;clear hcells hcl hcur hbel1 HZ HS1;go_loopw [3,11] (fun x i wr=>∃j:Nat,j<=n/\x=.int .i64 (X/256^j:Nat)/\i=.int .i64 (((p+n-j:Nat):Int)-1)/\Own w.heap.size wr (.slice (some ⟨w.heap.size,0,none⟩) zs.length zs.length) (down zs p n X j)/\Below w.heap.size w wr) (fun _ i _=>(intOf i+1-p).toNat)
 case atStart=>exact ⟨0,jT _,by simp,congrArg _ (by omega),by rw [down_zero];exact hown2,hbel2⟩
 case round=>
  obtain ⟨j,hj,rfl,rfl,hown,hbel⟩:=hrel;obtain ⟨y,hy⟩:∃y,X/256^j=y:=⟨_,rfl⟩;have hyX:y<=X:=by rw [<-hy];exact Nat.div_le_self _ _
  rw [hy];have HY:Hid (X/256^j=y):=hy;clear hy;by_cases hlt:j<n
  ·obtain ⟨m,hmm⟩:∃m,p+n-j=m+1:=⟨p+n-j-1,by omega⟩;have hmp:p<=m:=by omega
   have hml:m<zs.length:=by omega
   have em:(((p+n-j:Nat):Int)-1)=(m:Int):=by omega
   rw [em];have HM:Hid (p+n-j=m+1):=hmm;clear em hmm;obtain ⟨_,hc,hfr,hst⟩:=JL hown m (by rw [down_len];exact hml);have hst':=hst ((y%256:Nat):Int)
   have e:(down zs p n X j).set m ((y%256:Nat):Int)=down zs p n X (j+1):=by
    have:=down_next zs p n X j hlt;rw [HY.out] at this;rw [show m=p+n-1-j from by have:=HM.out;omega];exact this
   rw [e,show ((y%256:Nat):Int)=(y:Int)%256 from by omega] at hst';have HST:Hid (Own w.heap.size (wr.setCell ⟨w.heap.size,m,none⟩ (.int .u8 ((y:Int)%256))) (.slice (some ⟨w.heap.size,0,none⟩) zs.length zs.length) (down zs p n X (j+1))):=hst';obtain ⟨c,hcc⟩:∃c:Int,(down zs p n X j).getD m 0=c:=⟨_,rfl⟩;rw [hcc] at hc;clear hst hst' e hown hcc;go_wp2;go_roundw
   case rel=>exact ⟨j+1,by omega,congrArg _ (by rw [Nat.pow_succ,<-Nat.div_div_eq_div_mul,HY.out];omega),congrArg _ (by have:=HM.out;omega),HST.out,hbel.setCell (jB _) _⟩
   case measure=>simp [intOf];omega
  ·have hjn:j=n:=by omega
   subst hjn;rw [down_all] at hown;go_wp2;go_ret2
   exact ⟨_,rfl,hown,hbel⟩
def sameB (xs ys:List Int):Bool:=decide (xs=ys)
theorem same_more {xs ys:List Int} {k:Nat} (h:Hid (∀j,j<k->xs.getD j 0=ys.getD j 0)) (e:xs.getD k 0=ys.getD k 0):Hid (∀j,j<k+1->xs.getD j 0=ys.getD j 0):=by
 intro j hj;by_cases hjk:j=k
 ·rw [hjk];exact e
 ·exact h.out j (by omega)
theorem VP (a b:Option Addr) (cap cap':Nat) (xs ys:List Int) (w:World) (hx:Row w a cap xs) (hy:Row w b cap' ys):
  Calls prog 23 #[.slice a xs.length cap,.slice b ys.length cap'] w fun e w'=>e=.returned (.bool (sameB xs ys))/\Below w.heap.size w w':=by
 obtain ⟨_,hx2,hx3,hx4⟩:=hx;obtain ⟨_,hy2,hy3,hy4⟩:=hy;unfold maxLen at hx3 hy3;by_cases hl:xs.length=ys.length
 ·have hlb:((xs.length:Int) !=(ys.length:Int))=false:=by simp [hl]
  have hle:ys.length<=xs.length:=by omega
  have HL:Hid (xs.length=ys.length):=hl;have HX:Hid (xs=[]\/∃b off,a=some ⟨b,off,none⟩/\∀i,i<xs.length->w.cell? ⟨b,off+i,none⟩=some (.int .u8 (xs.getD i 0))):=hx4;have HY:Hid (ys=[]\/∃c off,b=some ⟨c,off,none⟩/\∀i,i<ys.length->w.cell? ⟨c,off+i,none⟩=some (.int .u8 (ys.getD i 0))):=hy4;clear hx4 hy4 hl;go_enter func23,ntmps23
  go_wp2;go_loopw [5] (fun i wr=>∃k:Nat,k<=xs.length/\i=.int .i64 k/\Hid (∀j,j<k->xs.getD j 0=ys.getD j 0)/\Below w.heap.size w wr) (fun i _=>xs.length-(intOf i).toNat)
  case atStart=>exact ⟨0,jT _,rfl,show Hid _ from fun j hj=>by omega,Below.refl _ _⟩
  case round=>
   obtain ⟨k,hk,rfl,hall,hnx⟩:=hrel;by_cases hlt:k<xs.length
   ·obtain ⟨p,off,rfl,hz⟩:=HX.out.resolve_left (by intro e;rw [e] at hlt;exact absurd hlt (by simp));obtain ⟨p',off',rfl,hz'⟩:=HY.out.resolve_left (by intro e;have:=HL.out;rw [e] at this;rw [this] at hlt;exact absurd hlt (by simp));have hlt':k<ys.length:=by have:=HL.out;omega
    have hc:=(hnx.cell (p:=⟨p,off+k,none⟩) (block_lt_of_cell (hz k hlt))).trans (hz k hlt);have hc':=(hnx.cell (p:=⟨p',off'+k,none⟩) (block_lt_of_cell (hz' k hlt'))).trans (hz' k hlt');clear hz hz';obtain ⟨c,hcc⟩:∃c:Int,xs.getD k 0=c:=⟨_,rfl⟩;obtain ⟨d,hdd⟩:∃d:Int,ys.getD k 0=d:=⟨_,rfl⟩;rw [hcc] at hc;rw [hdd] at hc';have HC:Hid (xs.getD k 0=c):=hcc;have HD:Hid (ys.getD k 0=d):=hdd;clear hcc hdd;by_cases hcd:c=d
    ·have hcb:(c !=d)=false:=by simp [hcd]
     have HE:Hid (c=d):=hcd;clear hcd;go_wp2;go_region
     all_goals (try go_wp2)
     all_goals
      go_roundw
      case rel=>exact ⟨k+1,by omega,by go_num,same_more hall (HC.out.trans (HE.out.trans HD.out.symm)),hnx.drew⟩
      case measure=>simp [intOf];omega
    ·have hcb:(c !=d)=true:=by simpa using hcd
     have hs:sameB xs ys=false:=by
      simp [sameB];intro e;apply hcd;rw [<-HC.out,<-HD.out,e]
     go_wp2;go_region
     all_goals (try go_wp2)
     all_goals
      go_ret
      exact ⟨by rw [hs];rfl,hnx.drew⟩
   ·have hs:sameB xs ys=true:=by
     have e:=yZ HL.out (fun i hi=>hall.out i (by omega));simp [sameB,e]
    go_wp2;go_ret
    exact ⟨by rw [hs];rfl,hnx⟩
 ·have hlb:((xs.length:Int) !=(ys.length:Int))=true:=by simp;omega
  have hs:sameB xs ys=false:=by simp [sameB];intro e;exact hl (by rw [e])
  rw [hs];go_enter func23,ntmps23
  go_wp2;go_ret
  exact ⟨rfl,Below.refl _ _⟩
def putB (zs:List Int) (p n x:Int):Bool:=insB zs.length p n&&fitB n x
def putR (zs:List Int) (p n x:Int):List Int:=if putB zs p n x then putL zs p.toNat n.toNat x.toNat else []
theorem YF {zs:List Int} (h:Bys zs) (p n x:Int):Bys (putR zs p n x):=by
 unfold putR;split
 ·exact putL_bys h _ _ _
 ·intro z hz;simp at hz
theorem fit_out {n x:Int} (h:fitB n x=true):0<=x/\x<=4611686018427387904/\x<256^n.toNat:=jZ h
theorem put_parts {zs:List Int} {p n x:Int} (h:putB zs p n x=true):
  ∃p' n' X:Nat,p=p'/\n=n'/\x=X/\1<=n'/\n'<=8/\p'+n'<=zs.length/\X<=4611686018427387904/\X<256^n':=by
 unfold putB at h;rw [jO] at h;have h1:=uP h.1;have h2:=fit_out h.2;obtain ⟨p',rfl⟩:=jW h1.2.2.1;obtain ⟨n',rfl⟩:=jW (show 0<=n by omega);obtain ⟨X,rfl⟩:=jW h2.1;refine ⟨p',n',X,rfl,rfl,rfl,by omega,by omega,by omega,by omega,?_⟩;have h3:=h2.2.2;rw [jS] at h3;have h4:((X:Nat):Int)<((256^n':Nat):Int):=by rw [Int.natCast_pow];exact h3
 exact Int.ofNat_lt.1 h4
theorem put_any (a:Option Addr) (cap:Nat) (zs:List Int) (p n x:Int) (w:World) (h:Row w a cap zs) (hsz:zs.length<=140737488355328) (hx:x<=9223372036854775807):
  Calls prog 183 #[.slice a zs.length cap,.int .i64 p,.int .i64 n,.int .i64 x] w fun e w'=>∃v,e=.returned (.tuple #[v,.bool (putB zs p n x)])/\Own w.heap.size w' v (putR zs p n x)/\Below w.heap.size w w':=by
 by_cases hb:putB zs p n x=true
 ·obtain ⟨p',n',X,rfl,rfl,rfl,h1,h8,hp,hX,hXn⟩:=put_parts hb;obtain ⟨_,g2,g3,g4⟩:=h;rcases g4 with rfl|⟨b,off,rfl,hc⟩
  ·simp at hp;omega
  ·have e:putR zs p' n' X=putL zs p' n' X:=by simp [putR,hb]
   rw [e,hb];exact put_yes b off cap zs p' n' X w hc g2 g3 hsz h1 h8 hp hX hXn
 ·have hb':putB zs p n x=false:=by simpa using hb
  have e:putR zs p n x=[]:=by simp [putR,hb']
  rw [e,hb'];refine (put_no a zs.length cap p n x w (jP h.2.1 h.2.2.1) hx hb').mono ?_;rintro e w' ⟨rfl,rfl⟩;exact ⟨_,rfl,World.ownsRow_nil _ _ _ _,Below.refl _ _⟩
def shf (s:Nat):Nat:=if s%2=1 then s/2 ^^^ 3988292384 else s/2
def shfs (s:Nat):Nat->Nat
 |0=>s
 |k+1=>shf (shfs s k)
def stp (s c:Nat):Nat:=shfs (s ^^^ c) 8
def reg (zs:List Int):Nat->Nat
 |0=>4294967295
 |k+1=>stp (reg zs k) (zs.getD k 0).toNat
theorem FS {a b:Nat} (ha:a<4294967296) (hb:b<4294967296):a ^^^ b<4294967296:=Nat.xor_lt_two_pow (n:=32) ha hb
theorem shf_lt {s:Nat} (h:s<4294967296):shf s<4294967296:=by
 unfold shf;split
 ·exact FS (by omega) (by omega)
 ·omega
theorem gA {s:Nat} (h:s<4294967296) (k:Nat):shfs s k<4294967296:=by
 induction k with
 |zero=>exact h
 |succ k ih=>exact shf_lt ih
theorem stp_lt {s c:Nat} (h:s<4294967296) (hc:c<256):stp s c<4294967296:=gA (FS h (by omega)) 8
theorem VU {zs:List Int} (hb:Bys zs) (k:Nat):reg zs k<4294967296:=by
 induction k with
 |zero=>show 4294967295<4294967296;omega
 |succ k ih=>exact stp_lt ih (by have:=hb.at k;omega)
theorem and1 {s:Nat} (hs:s<4294967296):bits .and .u32 (s:Int) 1=((s%2:Nat):Int):=by
 rw [u32_and _ _ (by omega) (by omega) (by omega) (by omega)];rw [show ((s:Int)).toNat=s from by omega,show (1:Int).toNat=1 from rfl,nat_mask1]
theorem shf_one {s:Nat} (hs:s<4294967296) (h:(bits .and .u32 (s:Int) 1==1)=true):
  bits .xor .u32 ((s:Int)/2) 3988292384=((shf s:Nat):Int):=by
 rw [and1 hs,yF] at h;rw [u32_xor _ _ (by omega) (by omega) (by omega) (by omega)];unfold shf;rw [if_pos (by omega),show ((s:Int)/2).toNat=s/2 from by omega,show (3988292384:Int).toNat=3988292384 from rfl]
theorem shf_two {s:Nat} (hs:s<4294967296) (h:(bits .and .u32 (s:Int) 1==1)=false):
  (s:Int)/2=((shf s:Nat):Int):=by
 rw [and1 hs,xG] at h;unfold shf;rw [if_neg (by omega)];omega
theorem not32 {r:Nat} (h:r<4294967296):bits .xor .u32 IntKind.u32.max (r:Int)=4294967295-(r:Int):=by
 show IntKind.u32.wrap ((BitVec.ofInt 32 IntKind.u32.max ^^^ BitVec.ofInt 32 (r:Int)).toNat:Int)=_;have h1:BitVec.ofInt 32 IntKind.u32.max=BitVec.allOnes 32:=by decide
 rw [h1,BitVec.allOnes_xor,BitVec.toNat_not,ofInt_u32 r h];rw [IntWalk.u32_in _ (by omega)];omega
theorem xor_c {r c:Nat} (h:r<4294967296) (hc:c<=255):bits .xor .u32 (r:Int) (c:Int)=((r ^^^ c:Nat):Int):=by
 rw [u32_xor _ _ (by omega) (by omega) (by omega) (by omega)];rfl
theorem reg_next {zs:List Int} {k c:Nat} (h:zs.getD k 0=(c:Int)):shfs (reg zs k ^^^ c) 8=reg zs (k+1):=by
 show _=stp (reg zs k) (zs.getD k 0).toNat;rw [h];rfl
def crc (zs:List Int):Int:=4294967295-(reg zs zs.length:Int)
end Go.Proofs.YtaijfhadecennaaGreat.Oct
