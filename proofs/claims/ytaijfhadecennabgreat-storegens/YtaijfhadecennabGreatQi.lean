/- Part of a proof. -/
import Derived.Test.YtaijfhadecennabGreatQa
import Derived.Test.YtaijfhadecennabGreatR
import Derived.Laws.AppendOwnNone
open Go.Proofs.Tryz
set_option maxHeartbeats 1000000
namespace Go.Proofs.YtaijfhadecennabGreat.Oct
open Go.RowKit
def putB (zs:List Int) (p n x:Int):Bool:=insB zs.length p n&&fitB n x
def putR (zs:List Int) (p n x:Int):List Int:=if putB zs p n x then putL zs p.toNat n.toNat x.toNat else []
theorem XM {zs:List Int} (h:Bys zs) (p n x:Int):Bys (putR zs p n x):=by
 unfold putR;split
 ·exact gM h _ _ _
 ·intro z hz;simp at hz
theorem fit_out {n x:Int} (h:fitB n x=true):0<=x/\x<=4611686018427387904/\x<256^n.toNat:=jZ h
theorem put_parts {zs:List Int} {p n x:Int} (h:putB zs p n x=true):
  ∃p' n' X:Nat,p=p'/\n=n'/\x=X/\1<=n'/\n'<=8/\p'+n'<=zs.length/\X<=4611686018427387904/\X<256^n':=by
 unfold putB at h;rw [jN] at h;have h1:=VI h.1;have h2:=fit_out h.2;obtain ⟨p',rfl⟩:=qB h1.2.2.1;obtain ⟨n',rfl⟩:=qB (show 0<=n by omega);obtain ⟨X,rfl⟩:=qB h2.1;refine ⟨p',n',X,rfl,rfl,rfl,by omega,by omega,by omega,by omega,?_⟩;have h3:=h2.2.2;rw [jS] at h3;have h4:((X:Nat):Int)<((256^n':Nat):Int):=by rw [Int.natCast_pow];exact h3
 exact Int.ofNat_lt.1 h4
theorem put_any (a:Option Addr) (cap:Nat) (zs:List Int) (p n x:Int) (w:World) (h:Row w a cap zs) (hsz:zs.length<=140737488355328) (hx:x<=9223372036854775807):
  Calls prog 204 #[.slice a zs.length cap,.int .i64 p,.int .i64 n,.int .i64 x] w fun e w'=>∃v,e=.returned (.tuple #[v,.bool (putB zs p n x)])/\Own w.heap.size w' v (putR zs p n x)/\Below w.heap.size w w':=by
 by_cases hb:putB zs p n x=true
 ·obtain ⟨p',n',X,rfl,rfl,rfl,h1,h8,hp,hX,hXn⟩:=put_parts hb;obtain ⟨_,g2,g3,g4⟩:=h;rcases g4 with rfl|⟨b,off,rfl,hc⟩
  ·simp at hp;omega
  ·have e:putR zs p' n' X=putL zs p' n' X:=by simp [putR,hb]
   rw [e,hb];exact put_yes b off cap zs p' n' X w hc g2 g3 hsz h1 h8 hp hX hXn
 ·have hb':putB zs p n x=false:=by simpa using hb
  have e:putR zs p n x=[]:=by simp [putR,hb']
  rw [e,hb'];refine (put_no a zs.length cap p n x w (jR h.2.1 h.2.2.1) hx hb').mono ?_;rintro e w' ⟨rfl,rfl⟩;exact ⟨_,rfl,World.ownsRow_nil _ _ _ _,Below.refl _ _⟩
def shf (s:Nat):Nat:=if s%2=1 then s/2 ^^^ 3988292384 else s/2
def shfs (s:Nat):Nat->Nat
 |0=>s
 |k+1=>shf (shfs s k)
def stp (s c:Nat):Nat:=shfs (s ^^^ c) 8
def reg (zs:List Int):Nat->Nat
 |0=>4294967295
 |k+1=>stp (reg zs k) (zs.getD k 0).toNat
theorem xor_lt {a b:Nat} (ha:a<4294967296) (hb:b<4294967296):a ^^^ b<4294967296:=Nat.xor_lt_two_pow (n:=32) ha hb
theorem shf_lt {s:Nat} (h:s<4294967296):shf s<4294967296:=by
 unfold shf;split
 ·exact xor_lt (by omega) (by omega)
 ·omega
theorem shfs_lt {s:Nat} (h:s<4294967296) (k:Nat):shfs s k<4294967296:=by
 induction k with
 |zero=>exact h
 |succ k ih=>exact shf_lt ih
theorem stp_lt {s c:Nat} (h:s<4294967296) (hc:c<256):stp s c<4294967296:=shfs_lt (xor_lt h (by omega)) 8
theorem reg_lt {zs:List Int} (hb:Bys zs) (k:Nat):reg zs k<4294967296:=by
 induction k with
 |zero=>show 4294967295<4294967296;omega
 |succ k ih=>exact stp_lt ih (by have:=hb.at k;omega)
theorem and1 {s:Nat} (hs:s<4294967296):bits .and .u32 (s:Int) 1=((s%2:Nat):Int):=by
 rw [u32_and _ _ (by omega) (by omega) (by omega) (by omega)];rw [show ((s:Int)).toNat=s from by omega,show (1:Int).toNat=1 from rfl,nat_mask1]
theorem shf_one {s:Nat} (hs:s<4294967296) (h:(bits .and .u32 (s:Int) 1==1)=true):
  bits .xor .u32 ((s:Int)/2) 3988292384=((shf s:Nat):Int):=by
 rw [and1 hs,beq_iff_eq] at h;rw [u32_xor _ _ (by omega) (by omega) (by omega) (by omega)];unfold shf;rw [if_pos (by omega),show ((s:Int)/2).toNat=s/2 from by omega,show (3988292384:Int).toNat=3988292384 from rfl]
theorem shf_two {s:Nat} (hs:s<4294967296) (h:(bits .and .u32 (s:Int) 1==1)=false):
  (s:Int)/2=((shf s:Nat):Int):=by
 rw [and1 hs,beq_eq_false_iff_ne] at h;unfold shf;rw [if_neg (by omega)];omega
theorem not32 {r:Nat} (h:r<4294967296):bits .xor .u32 IntKind.u32.max (r:Int)=4294967295-(r:Int):=by
 show IntKind.u32.wrap ((BitVec.ofInt 32 IntKind.u32.max ^^^ BitVec.ofInt 32 (r:Int)).toNat:Int)=_;have h1:BitVec.ofInt 32 IntKind.u32.max=BitVec.allOnes 32:=by decide
 rw [h1,BitVec.allOnes_xor,BitVec.toNat_not,ofInt_u32 r h];rw [IntWalk.u32_in _ (by omega)];omega
theorem xor_c {r c:Nat} (h:r<4294967296) (hc:c<=255):bits .xor .u32 (r:Int) (c:Int)=((r ^^^ c:Nat):Int):=by
 rw [u32_xor _ _ (by omega) (by omega) (by omega) (by omega)];rfl
theorem reg_next {zs:List Int} {k c:Nat} (h:zs.getD k 0=(c:Int)):shfs (reg zs k ^^^ c) 8=reg zs (k+1):=by
 show _=stp (reg zs k) (zs.getD k 0).toNat;rw [h];rfl
def crc (zs:List Int):Int:=4294967295-(reg zs zs.length:Int)
theorem shift_any (s:Nat) (w:World) (hs:s<4294967296):
  Calls prog 224 #[.int .u32 s] w fun e w'=>e=.returned (.int .u32 (shf s:Nat))/\w=w':=by
 go_enter func224,ntmps224
 go_wp2
 ·go_ret
  exact ⟨congrArg (fun x=>Ending.returned (.int .u32 x)) (shf_one hs (by assumption)),rfl⟩
 ·go_ret
  exact ⟨congrArg (fun x=>Ending.returned (.int .u32 x)) (shf_two hs (by assumption)),rfl⟩
theorem crc_any (a:Option Addr) (cap:Nat) (zs:List Int) (w:World) (h:Row w a cap zs):
  Calls prog 199 #[.slice a zs.length cap] w fun e w'=>e=.returned (.int .u32 (crc zs))/\w=w':=by
 obtain ⟨hb,h2,hm',hz⟩:=h;unfold maxLen at hm';have HB:Hid (Bys zs):=hb;have HZ:Hid (zs=[]\/∃b off,a=some ⟨b,off,none⟩/\∀i,i<zs.length->w.cell? ⟨b,off+i,none⟩=some (.int .u8 (zs.getD i 0))):=hz;clear hb hz;go_enter func199,ntmps199
 go_wp2;go_loop [3,8] (fun x i=>∃k:Nat,k<=zs.length/\i=.int .i64 k/\x=.int .u32 (reg zs k:Nat)) (fun _ i=>zs.length-(intOf i).toNat)
 case atStart=>exact ⟨0,jW _,rfl,rfl⟩
 case round=>
  obtain ⟨k,hk,rfl,rfl⟩:=hrel;by_cases hlt:k<zs.length
  ·obtain ⟨b,off,rfl,hz⟩:=HZ.out.resolve_left (by intro e;rw [e] at hlt;exact absurd hlt (by simp));have hc:=hz k hlt;clear hz;have hr:=reg_lt HB.out k;obtain ⟨c,hcc⟩:∃c:Nat,zs.getD k 0=(c:Int):=⟨_,(qD (HB.out.at k).1).symm⟩;have hcb:c<=255:=by have:=(HB.out.at k).2;omega
   rw [hcc] at hc;have HC:Hid (zs.getD k 0=(c:Int)):=hcc;clear hcc;have HX:Hid (reg zs k ^^^ c<4294967296):=xor_lt hr (by omega);go_wp2;go_loop [3,16] (fun x i=>∃m:Nat,m<=8/\i=.int .i64 m/\x=.int .u32 (shfs (reg zs k ^^^ c) m:Nat)) (fun _ i=>8-(intOf i).toNat)
   case atStart=>exact ⟨0,jW _,rfl,congrArg (fun x:Int=>Value.int .u32 x) (xor_c hr hcb)⟩
   case round=>
    obtain ⟨m,hm8,rfl,rfl⟩:=hrel;have hs:=shfs_lt HX.out m;by_cases hlt8:m<8
    ·go_wp2_with (go_at_call 224;refine (shift_any _ _ hs).mono ?_;rintro e w' ⟨rfl,rfl⟩)
     go_round
     case rel=>exact ⟨m+1,by omega,by go_num,rfl⟩
     case measure=>simp [intOf];omega
    ·have hmm:m=8:=by omega
     subst hmm;go_wp2;go_round
     case rel=>exact ⟨k+1,by omega,by go_num,congrArg (fun x:Nat=>Value.int .u32 (x:Int)) (reg_next HC.out)⟩
     case measure=>simp [intOf];omega
  ·have hr:=reg_lt HB.out k;have hkn:Hid (k=zs.length):=show k=zs.length by omega
   go_wp2;go_ret
   exact ⟨congrArg (fun x=>Ending.returned (.int .u32 x)) ((not32 hr).trans (by unfold crc;rw [hkn.out])),rfl⟩
theorem QP {w:World} {ad:Addr} {c:Nat} {zs:List Int} (h:Row w (some ad) c zs):∀(j:Nat) (u:Value),(zs.map (Value.int .u8))[j]?=some u->w.cell? (ad.add j)=some u:=by
 intro j u hj;rw [qN] at hj
 have hlt:j<zs.length:=by
  by_cases hlt:j<zs.length
  ·exact hlt
  ·rw [jX (by omega)] at hj;exact absurd hj (by simp)
 rcases h.2.2.2 with h|⟨b,off,e,hc⟩
 ·rw [h] at hlt;exact absurd hlt (by simp)
 ·simp only [jP] at e;subst e;have e2:(⟨b,off,none⟩:Addr).add j=⟨b,off+j,none⟩:=by simp [Addr.add]
  rw [e2,hc j hlt,<-hj,jA,jC hlt];rfl
theorem zW (zs:List Int):∀u∈zs.map (Value.int .u8),u.oneCell'=true:=by
 intro u hu;obtain ⟨z,_,rfl⟩:=List.mem_map.1 hu;rfl
theorem append_row {w:World} {ops:Array Oper} {rest:List Oper} {o:Oper} {a:Act} {Q:Exit->Act->World->Prop} (hgd:o.guard=none) (s x:Operand)
  (ho:o.op=.call {callee:=.builtin .append,args:= #[s,x],argTypes:= #[22,22]})
  (base:Nat) (v:Value) (xs:List Int) (hs:a.eval s=v) (hown:Own base w v xs) (sa:Option Addr) (zs:List Int) (c:Nat) (hx:a.eval x=.slice sa zs.length c)
  (hrow:Row w sa c zs) (hnil:sa=none->c=0) (hsz:xs.length+zs.length<=1000000) (hbase:base<=w.heap.size)
  (h:∀v' w',Own base w' v' (xs++zs)->Below base w w'->wpList prog ops Q rest (a.put o.dst v') w'):wpList prog ops Q (o::rest) a w:=by
 obtain ⟨i0,hi,hz0,hz1,hz2⟩:=info_parts info5;cases sa with
 |none=>
  have hz:zs=[]:=by
   rcases hrow.2.2.2 with h|⟨b,off,e,_⟩
   ·exact h
   ·exact absurd e (by simp)
  subst hz;rw [hnil rfl] at hx;refine wpList_append_own_none hgd s x 22 ho base 5 i0 1 underlying22 hi v _ _ hs hown hx ?_;exact h v w (by rw [xZ];exact hown) (Below.refl _ _)
 |some ad=>
  refine wpList_append_own w hgd s x 22 ho base 5 i0 (.int .u8 0) 1 1 underlying22 hi hz0 hz1 hz2 rfl (by decide) v _ _ hs hown ad _ c (zs.map (Value.int .u8)) hx (by simp) (QP hrow) (zW zs) (by unfold maxLen;omega) (by omega) hbase ?_;intro v' w' h1 h2 _;refine h v' w' ?_ ((Below.refl base w).grown h2 hbase (fun j hj=>hown.lt' j hj));unfold Own;rw [jO,qM];exact h1
end Go.Proofs.YtaijfhadecennabGreat.Oct
