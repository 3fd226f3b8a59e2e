/- Part of a proof. -/
import Derived.Test.YtaijfhadecennaaGreatQm
import Derived.Test.YtaijfhadecennaaGreatQg
import Derived.Test.YtaijfhadecennaaGreatR
import Derived.Laws.AppendOwnNone
import Derived.Laws.EntriesVeiled
import Derived.Lib.SliceRun
open Go.Proofs.Tryz
set_option maxHeartbeats 1000000
namespace Go.Proofs.YtaijfhadecennaaGreat.Oct
open Go.RowKit
theorem shift_any (s:Nat) (w:World) (hs:s<4294967296):
  Calls prog 271 #[.int .u32 s] w fun e w'=>e=.returned (.int .u32 (shf s:Nat))/\w=w':=by
 go_enter func271,ntmps271
 go_wp2
 ·go_ret
  exact ⟨congrArg (fun x=>Ending.returned (.int .u32 x)) (shf_one hs (by assumption)),rfl⟩
 ·go_ret
  exact ⟨congrArg (fun x=>Ending.returned (.int .u32 x)) (shf_two hs (by assumption)),rfl⟩
theorem crc_any (a:Option Addr) (cap:Nat) (zs:List Int) (w:World) (h:Row w a cap zs):
  Calls prog 250 #[.slice a zs.length cap] w fun e w'=>e=.returned (.int .u32 (crc zs))/\w=w':=by
 obtain ⟨hb,h2,hm',hz⟩:=h;unfold maxLen at hm';have HB:Hid (Bys zs):=hb;have HZ:Hid (zs=[]\/∃b off,a=some ⟨b,off,none⟩/\∀i,i<zs.length->w.cell? ⟨b,off+i,none⟩=some (.int .u8 (zs.getD i 0))):=hz;clear hb hz;go_enter func250,ntmps250
 go_wp2;go_loop [3,8] (fun x i=>∃k:Nat,k<=zs.length/\i=.int .i64 k/\x=.int .u32 (reg zs k:Nat)) (fun _ i=>zs.length-(intOf i).toNat)
 case atStart=>exact ⟨0,jT _,rfl,rfl⟩
 case round=>
  obtain ⟨k,hk,rfl,rfl⟩:=hrel;by_cases hlt:k<zs.length
  ·obtain ⟨b,off,rfl,hz⟩:=HZ.out.resolve_left (by intro e;rw [e] at hlt;exact absurd hlt (by simp));have hc:=hz k hlt;clear hz;have hr:=VU HB.out k;obtain ⟨c,hcc⟩:∃c:Nat,zs.getD k 0=(c:Int):=⟨_,(qF (HB.out.at k).1).symm⟩;have hcb:c<=255:=by have:=(HB.out.at k).2;omega
   rw [hcc] at hc;have HC:Hid (zs.getD k 0=(c:Int)):=hcc;clear hcc;have HX:Hid (reg zs k ^^^ c<4294967296):=FS hr (by omega);go_wp2;go_loop [3,16] (fun x i=>∃m:Nat,m<=8/\i=.int .i64 m/\x=.int .u32 (shfs (reg zs k ^^^ c) m:Nat)) (fun _ i=>8-(intOf i).toNat)
   case atStart=>exact ⟨0,jT _,rfl,congrArg (fun x:Int=>Value.int .u32 x) (xor_c hr hcb)⟩
   case round=>
    obtain ⟨m,hm8,rfl,rfl⟩:=hrel;have hs:=gA HX.out m;by_cases hlt8:m<8
    ·go_wp2_with (go_at_call 271;refine (shift_any _ _ hs).mono ?_;rintro e w' ⟨rfl,rfl⟩)
     go_round
     case rel=>exact ⟨m+1,by omega,by go_num,rfl⟩
     case measure=>simp [intOf];omega
    ·have hmm:m=8:=by omega
     subst hmm;go_wp2;go_round
     case rel=>exact ⟨k+1,by omega,by go_num,congrArg (fun x:Nat=>Value.int .u32 (x:Int)) (reg_next HC.out)⟩
     case measure=>simp [intOf];omega
  ·have hr:=VU HB.out k;have hkn:Hid (k=zs.length):=show k=zs.length by omega
   go_wp2;go_ret
   exact ⟨congrArg (fun x=>Ending.returned (.int .u32 x)) ((not32 hr).trans (by unfold crc;rw [hkn.out])),rfl⟩
theorem refcrc_any (a:Option Addr) (cap:Nat) (zs:List Int) (w:World) (h:Row w a cap zs):
  Calls prog 233 #[.slice a zs.length cap] w fun e w'=>e=.returned (.int .u32 (crc zs))/\w=w':=by
 obtain ⟨hb,h2,hm',hz⟩:=h;unfold maxLen at hm';have HB:Hid (Bys zs):=hb;have HZ:Hid (zs=[]\/∃b off,a=some ⟨b,off,none⟩/\∀i,i<zs.length->w.cell? ⟨b,off+i,none⟩=some (.int .u8 (zs.getD i 0))):=hz;clear hb hz;go_enter func233,ntmps233
 go_wp2;go_loop [3,4] (fun x i=>∃k:Nat,k<=zs.length/\i=.int .i64 k/\x=.int .u32 (reg zs k:Nat)) (fun _ i=>zs.length-(intOf i).toNat)
 case atStart=>exact ⟨0,jT _,rfl,rfl⟩
 case round=>
  obtain ⟨k,hk,rfl,rfl⟩:=hrel;by_cases hlt:k<zs.length
  ·obtain ⟨b,off,rfl,hz⟩:=HZ.out.resolve_left (by intro e;rw [e] at hlt;exact absurd hlt (by simp));have hc:=hz k hlt;clear hz;have hr:=VU HB.out k;obtain ⟨c,hcc⟩:∃c:Nat,zs.getD k 0=(c:Int):=⟨_,(qF (HB.out.at k).1).symm⟩;have hcb:c<=255:=by have:=(HB.out.at k).2;omega
   rw [hcc] at hc;have HC:Hid (zs.getD k 0=(c:Int)):=hcc;clear hcc;have HX:Hid (reg zs k ^^^ c<4294967296):=FS hr (by omega);go_wp2;go_loop [3,5] (fun x i=>∃m:Nat,m<=8/\i=.int .i64 m/\x=.int .u32 (shfs (reg zs k ^^^ c) m:Nat)) (fun _ i=>8-(intOf i).toNat)
   case atStart=>exact ⟨0,jT _,rfl,congrArg (fun x:Int=>Value.int .u32 x) (xor_c hr hcb)⟩
   case round=>
    obtain ⟨m,hm8,rfl,rfl⟩:=hrel;have hs:=gA HX.out m;by_cases hlt8:m<8
    ·go_wp2
     ·go_round
      case rel=>exact ⟨m+1,by omega,by go_num,congrArg (fun x:Int=>Value.int .u32 x) (shf_one hs (by assumption))⟩
      case measure=>simp [intOf];omega
     ·go_round
      case rel=>exact ⟨m+1,by omega,by go_num,congrArg (fun x:Int=>Value.int .u32 x) (shf_two hs (by assumption))⟩
      case measure=>simp [intOf];omega
    ·have hmm:m=8:=by omega
     subst hmm;go_wp2;go_round
     case rel=>exact ⟨k+1,by omega,by go_num,congrArg (fun x:Nat=>Value.int .u32 (x:Int)) (reg_next HC.out)⟩
     case measure=>simp [intOf];omega
  ·have hr:=VU HB.out k;have hkn:Hid (k=zs.length):=show k=zs.length by omega
   go_wp2;go_ret
   exact ⟨congrArg (fun x=>Ending.returned (.int .u32 x)) ((not32 hr).trans (by unfold crc;rw [hkn.out])),rfl⟩
theorem QS {w:World} {ad:Addr} {c:Nat} {zs:List Int} (h:Row w (some ad) c zs):∀(j:Nat) (u:Value),(zs.map (Value.int .u8))[j]?=some u->w.cell? (ad.add j)=some u:=by
 intro j u hj;rw [qH] at hj
 have hlt:j<zs.length:=by
  by_cases hlt:j<zs.length
  ·exact hlt
  ·rw [qD (by omega)] at hj;exact absurd hj (by simp)
 rcases h.2.2.2 with h|⟨b,off,e,hc⟩
 ·rw [h] at hlt;exact absurd hlt (by simp)
 ·simp only [jQ] at e;subst e;have e2:(⟨b,off,none⟩:Addr).add j=⟨b,off+j,none⟩:=by simp [Addr.add]
  rw [e2,hc j hlt,<-hj,jA,jC hlt];rfl
theorem zQ (zs:List Int):∀u∈zs.map (Value.int .u8),u.oneCell'=true:=by
 intro u hu;obtain ⟨z,_,rfl⟩:=List.mem_map.1 hu;rfl
theorem ZP {w:World} {ops:Array Oper} {rest:List Oper} {o:Oper} {a:Act} {Q:Exit->Act->World->Prop} (hgd:o.guard=none) (s x:Operand)
  (ho:o.op=.call {callee:=.builtin .append,args:= #[s,x],argTypes:= #[32,32]})
  (base:Nat) (v:Value) (xs:List Int) (hs:a.eval s=v) (hown:Own base w v xs) (sa:Option Addr) (zs:List Int) (c:Nat) (hx:a.eval x=.slice sa zs.length c)
  (hrow:Row w sa c zs) (hnil:sa=none->c=0) (hsz:xs.length+zs.length<=1000000) (hbase:base<=w.heap.size)
  (h:∀v' w',Own base w' v' (xs++zs)->Below base w w'->wpList prog ops Q rest (a.put o.dst v') w'):wpList prog ops Q (o::rest) a w:=by
 obtain ⟨i0,hi,hz0,hz1,hz2⟩:=info_parts info5;cases sa with
 |none=>
  have hz:zs=[]:=by
   rcases hrow.2.2.2 with h|⟨b,off,e,_⟩
   ·exact h
   ·exact absurd e (by simp)
  subst hz;rw [hnil rfl] at hx;refine wpList_append_own_none hgd s x 32 ho base 5 i0 1 underlying32 hi v _ _ hs hown hx ?_;exact h v w (by rw [xW];exact hown) (Below.refl _ _)
 |some ad=>
  refine wpList_append_own w hgd s x 32 ho base 5 i0 (.int .u8 0) 1 1 underlying32 hi hz0 hz1 hz2 rfl (by decide) v _ _ hs hown ad _ c (zs.map (Value.int .u8)) hx (by simp) (QS hrow) (zQ zs) (by unfold maxLen;omega) (by omega) hbase ?_;intro v' w' h1 h2 _;refine h v' w' ?_ ((Below.refl base w).grown h2 hbase (fun j hj=>hown.lt' j hj));unfold Own;rw [jN,qI];exact h1
def okK (k:Int):Bool:=decide (1<=k/\k<=5)
theorem YW (k:Int) (w:World):
  Calls prog 209 #[.int .i64 k] w fun e w'=>e=.returned (.bool (okK k))/\w=w':=by
 by_cases h1:1<=k
 ·by_cases h2:k<=5
  ·have hv:okK k=true:=by simp [okK];omega
   rw [hv];clear hv;go_enter func209,ntmps209
   go_wp2;go_ret
   exact ⟨rfl,rfl⟩
  ·have hv:okK k=false:=by simp [okK];omega
   rw [hv];clear hv;go_enter func209,ntmps209
   go_wp2;go_ret
   exact ⟨rfl,rfl⟩
 ·have hv:okK k=false:=by simp [okK];omega
  rw [hv];clear hv;go_enter func209,ntmps209
  go_wp2;go_ret
  exact ⟨rfl,rfl⟩
theorem number_any (a:Option Addr) (cap:Nat) (zs:List Int) (p n:Int) (w:World) (h:Row w a cap zs):
  Calls prog 207 #[.slice a zs.length cap,.int .i64 p,.int .i64 n] w fun e w'=>e=.returned (.int .i64 (getI zs p n))/\Below w.heap.size w w':=by
 have c:=UV a cap zs p n w h;clear h;go_enter func207,ntmps207
 go_wp2_with fail
 refine c.mono ?_;clear c;rintro e w1 ⟨rfl,hb⟩;go_wp2;go_ret
 exact ⟨rfl,hb⟩
theorem JQ (a:Option Addr) (cap:Nat) (zs:List Int) (p n:Int) (w:World) (h:Row w a cap zs):
  Calls prog 198 #[.slice a zs.length cap,.int .i64 p,.int .i64 n] w fun e w'=>e=.returned (.int .i64 (getI zs p n))/\w=w':=by
 have c:=refget_any a cap zs p n w h;clear h;go_enter func198,ntmps198
 go_wp2_with fail
 refine c.mono ?_;clear c;rintro e w1 ⟨rfl,rfl⟩;go_wp2;go_ret
 exact ⟨rfl,rfl⟩
theorem Row.drop' {w:World} {b off cap:Nat} {zs:List Int} (h:Row w (some ⟨b,off,none⟩) cap zs) (k:Nat) (hk:k<=zs.length):Row w (some ⟨b,off+k,none⟩) (cap-k) (zs.drop k):=by
 refine ⟨fun z hz=>h.1 z (jV hz),by rw [qC];have:=h.2.1;omega,by have:=h.2.2.1;omega,.inr ⟨b,off+k,rfl,fun i hi=>?_⟩⟩;rw [qC] at hi;rw [yJ,h.cells (k+i) (by omega)];simp only [jA,qO]
theorem KD {zs:List Int} (hb:Bys zs):0<=crc zs/\crc zs<=4294967295:=by
 have:=VU hb zs.length;unfold crc;omega
theorem wrap_i64 {z:Int} (h0:0<=z) (h1:z<=4294967295):IntKind.i64.wrap z=z:=by
 rw [IntWalk.i64_in _ (by omega)]
theorem sum_any (b off cap:Nat) (zs:List Int) (w:World) (h:Row w (some ⟨b,off,none⟩) cap zs) (hl:zs.length=256):
  Calls prog 208 #[.slice (some ⟨b,off,none⟩) zs.length cap] w fun e w'=>e=.returned (.int .i64 (crc (zs.drop 4)))/\w=w':=by
 have hr:=h.drop' 4 (by omega);have c:=crc_any _ _ _ _ hr;rw [qC] at c;have hb:=KD hr.1;have hc:=h.2.1;have hm:=h.2.2.1;unfold maxLen at hm;rw [hl] at hc c;rw [hl];clear h hr hl;obtain ⟨y,hy⟩:∃y,crc (zs.drop 4)=y:=⟨_,rfl⟩;rw [hy] at c hb;rw [hy];clear hy;go_enter func208,ntmps208
 go_wp2_with fail
 refine c.mono ?_;clear c;rintro e w1 ⟨rfl,rfl⟩;go_wp2;go_ret
 exact ⟨rfl,rfl⟩
theorem nil_slice (w:World) (a:Option Addr) (n c:Nat):(binOp .eql 32 (.slice a n c) (.slice none 0 0)).run prog w=.ok (.bool a.isNone) w:=Lib.run_eql_slice_nil w 32 5 a n c 0 0 underlying32
theorem JP (ad:Addr) (cap:Nat) (zs:List Int) (w:World) (h:Row w (some ad) cap zs) (hsz:zs.length<=140737488355328):
  Calls prog 70 #[.slice (some ad) zs.length cap] w fun e w'=>∃g c,e=.returned (.slice (some ⟨g,0,none⟩) zs.length c)/\Own w.heap.size w' (.slice (some ⟨g,0,none⟩) zs.length c) zs/\Below w.heap.size w w':=by
 obtain ⟨i0,hi,hz0,hz1,hz2⟩:=info_parts info5;have hm:zs.length<=maxLen:=jP h.2.1 h.2.2.1;have hr:=h.below ((Below.refl w.heap.size w).alloc (jB _) (.cells #[] 5));have hn:=QS hr;have ho:(w.alloc (.cells #[] 5)).ownsRow w.heap.size 5 1 (.slice (some ⟨w.heap.size,0,none⟩) 0 0) 0 []:=World.ownsRow_made w #[] 0 (jB _) (by simp [maxLen]) rfl;have HN:Hid (∀(j:Nat) (u:Value),(zs.map (Value.int .u8))[j]?=some u->(w.alloc (.cells #[] 5)).cell? (ad.add j)=some u):=hn;clear h hr hn;have hq:=nil_slice w (some ad) zs.length cap;go_enter func70,ntmps70
 go_wp2_with (at_builtin;refine wpList_append_own _ rfl _ _ 32 rfl w.heap.size 5 i0 (.int .u8 0) 1 1 underlying32 hi hz0 hz1 hz2 rfl (by decide) _ _ _ rfl ho ad zs.length cap (zs.map (Value.int .u8)) rfl (by simp) HN.out (zQ zs) (by omega) (by omega) (by simp) ?_)
 intro v' w1 hown' hgrow hnil;have hb:Below w.heap.size w w1:=((Below.refl w.heap.size w).alloc (jB _) _).grown hgrow (by simp) (fun k hk=>by simp [Value.ownBlock] at hk;omega)
 have hv:∃g c,v'=.slice (some ⟨g,0,none⟩) zs.length c:=by
  rcases hown'.2 with ⟨e,_⟩|⟨g,c,cur,e,_⟩
  ·exact (hnil e).elim
  ·exact ⟨g,c,e⟩
 obtain ⟨g,c,hv⟩:=hv
 have HO:Hid (Own w.heap.size w1 (.slice (some ⟨g,0,none⟩) zs.length c) zs):=by
  rw [<-hv];exact hown'
 clear hown' hgrow hnil HN ho;rw [hv];go_wp2;go_ret
 exact ⟨g,c,rfl,HO.out,hb⟩
end Go.Proofs.YtaijfhadecennaaGreat.Oct
