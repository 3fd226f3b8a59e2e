/- Part of a proof. -/
import Derived.Test.YtaijfhadecennaaGreatSf
import Derived.Test.YtaijfhadecennaaGreatRi
import Derived.Deep.RegionHeld3
import Derived.Lib.SliceRun
import Derived.StillTailTactics
import Derived.LoopN
import Derived.Laws.EntriesVeiled
open Go.Proofs.Tryz
set_option maxHeartbeats 1000000
namespace Go.Proofs.YtaijfhadecennaaGreat.Oct.Sps
open Go.RowKit
structure SpX (w:World) (s a ca b cb:Nat) (F:Nat->Prop) (S:List Int):Prop where
 lt:∀k,F k->k<w.heap.size
 fs:F s
 fa:F a
 fb:F b
 ok:SpOk S
 cells:w.heap[s]?=some (.cells #[.int .i64 S.length,.slice (some ⟨a,0,none⟩) ((S.length+7)/8) ca,.slice (some ⟨b,0,none⟩) ((S.length+7)/8) cb] 140 (0,0))
 last:Own 0 w (.slice (some ⟨a,0,none⟩) ((S.length+7)/8) ca) (lasL S)
 next:Own 0 w (.slice (some ⟨b,0,none⟩) ((S.length+7)/8) cb) (bitL S)
 sa:¬s=a
 sb:¬s=b
 ab:¬a=b
def Spa (w:World) (s:Nat) (F:Nat->Prop) (S:List Int):Prop:=∃a ca b cb,SpX w s a ca b cb F S
section
variable {w w':World} {s a ca b cb:Nat} {F:Nat->Prop} {S:List Int}
theorem SpX.keep (h:SpX w s a ca b cb F S) (hs:w.heap.size<=w'.heap.size) (k:∀g,F g->w'.heap[g]?=w.heap[g]?):SpX w' s a ca b cb F S:=
 {h with lt:=fun g hg=>qA (h.lt g hg) hs,cells:=(k s h.fs).trans h.cells,last:=h.last.kept (k a h.fa),next:=h.next.kept (k b h.fb)}
theorem SpX.ch {G:Nat->Prop} (h:SpX w s a ca b cb F S) (hc:Ch w.heap.size G w w') (hd:∀k,F k->¬G k):SpX w' s a ca b cb F S:=
 h.keep hc.size (fun g hg=>hc.block g (h.lt g hg) (hd g hg))
theorem SpX.below (h:SpX w s a ca b cb F S) (hc:Below w.heap.size w w'):SpX w' s a ca b cb F S:=h.ch (Ch.of (fun _=>False) hc) (fun _ _ h=>h)
theorem SpX.at (h:SpX w s a ca b cb F S):w.cell? ⟨s,0,none⟩=some (.int .i64 S.length)/\w.cell? ⟨s,1,none⟩=some (.slice (some ⟨a,0,none⟩) ((S.length+7)/8) ca)/\w.cell? ⟨s,2,none⟩=some (.slice (some ⟨b,0,none⟩) ((S.length+7)/8) cb):=by
 refine ⟨?_,?_,?_⟩<;>rw [cell_of_row w s _ _ _ (0,0) h.cells]<;>rfl
theorem SpX.rowA (h:SpX w s a ca b cb F S):Row w (some ⟨a,0,none⟩) ca (lasL S):=(h.last.row' (kN S)).2
theorem SpX.rowB (h:SpX w s a ca b cb F S):Row w (some ⟨b,0,none⟩) cb (bitL S):=(h.next.row' (bitL_bys S)).2
theorem SpX.next' (h:SpX w s a ca b cb F S) {S':List Int} (hs:w.heap.size<=w'.heap.size) (hk:∀g,F g->¬g=b->w'.heap[g]?=w.heap[g]?) (hl:S'.length=S.length) (ok:SpOk S') (e:lasL S'=lasL S) (hn:Own 0 w' (.slice (some ⟨b,0,none⟩) ((S.length+7)/8) cb) (bitL S')):SpX w' s a ca b cb F S':=
 {lt:=fun g hg=>qA (h.lt g hg) hs,fs:=h.fs,fa:=h.fa,fb:=h.fb,ok:=ok,cells:=by rw [hl];exact (hk s h.fs h.sb).trans h.cells
  last:=by rw [hl,e];exact h.last.kept (hk a h.fa h.ab)
  next:=by rw [hl];exact hn
  sa:=h.sa,sb:=h.sb,ab:=h.ab}
theorem SpX.last' (h:SpX w s a ca b cb F S) {S':List Int} (hs:w.heap.size<=w'.heap.size) (hk:∀g,F g->¬g=a->w'.heap[g]?=w.heap[g]?) (hl:S'.length=S.length) (ok:SpOk S') (e:bitL S'=bitL S) (hn:Own 0 w' (.slice (some ⟨a,0,none⟩) ((S.length+7)/8) ca) (lasL S')):SpX w' s a ca b cb F S':=
 {lt:=fun g hg=>qA (h.lt g hg) hs,fs:=h.fs,fa:=h.fa,fb:=h.fb,ok:=ok,cells:=by rw [hl];exact (hk s h.fs h.sa).trans h.cells
  last:=by rw [hl];exact hn
  next:=by rw [hl,e];exact h.next.kept (hk b h.fb (fun e=>h.ab e.symm))
  sa:=h.sa,sb:=h.sb,ab:=h.ab}
theorem made_any (h:SpX w s a ca b cb F S):Calls prog 109 #[.pointer (some ⟨s,0,none⟩)] w fun e w'=>e=.returned (.bool true)/\w=w':=by
 obtain ⟨c0,-,-⟩:=h.at;have hp:0<S.length:=by have:=h.ok.lo;omega
 clear h;go_enter func109,ntmps109
 go_wp2;go_ret
 exact ⟨rfl,rfl⟩
theorem has_any (h:SpX w s a ca b cb F S) (p:Int):Calls prog 111 #[.pointer (some ⟨s,0,none⟩),.int .i64 p] w fun e w'=>e=.returned (.bool (inB S p))/\w=w':=by
 obtain ⟨c0,-,-⟩:=h.at;have hhi:=h.ok.hi;clear h;by_cases h0:0<=p
 ·by_cases h1:p<(S.length:Int)
  ·have HE:Hid (inB S p=true):=by show _=_;unfold inB;rw [jE h0,jE h1];rfl
   go_enter func111,ntmps111
   go_wp2;go_ret
   rw [HE.out];exact ⟨rfl,rfl⟩
  ·have HE:Hid (inB S p=false):=by show _=_;unfold inB;rw [jE h0,jH h1];rfl
   go_enter func111,ntmps111
   go_wp2;go_ret
   rw [HE.out];exact ⟨rfl,rfl⟩
 ·have HE:Hid (inB S p=false):=by show _=_;unfold inB;rw [jH h0];rfl
  go_enter func111,ntmps111
  go_wp2;go_ret
  rw [HE.out];exact ⟨rfl,rfl⟩
end
def alwB (n:Int):Bool:=decide (8<=n/\n<=4096)
theorem allowed_any (n:Int) (w:World):Calls prog 84 #[.int .i64 n] w fun e w'=>e=.returned (.bool (alwB n))/\w=w':=by
 by_cases h0:8<=n
 ·by_cases h1:n<=4096
  ·have HE:Hid (alwB n=true):=jE ⟨h0,h1⟩;go_enter func84,ntmps84
   go_wp2;go_ret
   rw [HE.out];exact ⟨rfl,rfl⟩
  ·have HE:Hid (alwB n=false):=jH (fun h=>h1 h.2);go_enter func84,ntmps84
   go_wp2;go_ret
   rw [HE.out];exact ⟨rfl,rfl⟩
 ·have HE:Hid (alwB n=false):=jH (fun h=>h0 h.1);go_enter func84,ntmps84
  go_wp2;go_ret
  rw [HE.out];exact ⟨rfl,rfl⟩
theorem room_any (n:Nat) (w:World) (h:n<=4096):Calls prog 85 #[.int .i64 n] w fun e w'=>e=.returned (.int .i64 ((n+7)/8:Nat))/\w=w':=by
 have hq:((n:Int)+7)/8=(((n+7)/8:Nat):Int):=by omega
 go_enter func85,ntmps85
 go_wp2;go_ret
 exact ⟨rfl,rfl⟩
theorem ZG (ad:Option Addr) (cap:Nat) (zs:List Int) (k:Nat) (w:World) (h:Row w ad cap zs) (hl:zs.length<=1000000) (hk:k<zs.length*8):
  Calls prog 154 #[.slice ad zs.length cap,.int .i64 k] w fun e w'=>e=.returned (.bool (bitR zs k))/\w=w':=by
 obtain ⟨b,off,rfl⟩:=h.some' (by omega);have hrow:=h.cells (k/8) (by omega);have hbz:=h.1.at (k/8);have hcap:=h.2.1;have hm:=h.2.2.1;unfold maxLen at hm;have hand:=bit_and hbz.1 hbz.2 (k%8);have hkj:((k:Int)/8)=((k/8:Nat):Int):=by omega
 have hkr:((k:Int)%8)=((k%8:Nat):Int):=by omega
 have hr8:k%8<8:=by omega
 have hj:k/8<zs.length:=by omega
 have hbit:bitR zs k=(zs.getD (k/8) 0/2^(k%8)%2==1):=rfl;obtain ⟨z,hz'⟩:∃z,zs.getD (k/8) 0=z:=⟨_,rfl⟩;rw [hz'] at hrow hbz hand hbit;obtain ⟨j,hj'⟩:∃j,k/8=j:=⟨_,rfl⟩;obtain ⟨r,hr'⟩:∃r,k%8=r:=⟨_,rfl⟩;rw [hj'] at hrow hkj hj;rw [hr'] at hand hkr hr8 hbit;have HB:Hid (bitR zs k=(z/2^r%2==1)):=hbit;clear hz' hj' hr' h hbit;have hm01:z/2^r%2=0\/z/2^r%2=1:=by omega
 rcases hm01 with hm|hm
 ·rw [hm] at hand;have HB2:Hid (bitR zs k=false):=by show _=_;rw [HB.out,hm];rfl
  clear hm hbz HB;go_enter func154,ntmps154
  go_wp2;go_ret
  rw [HB2.out];exact ⟨rfl,rfl⟩
 ·rw [hm] at hand;have HB2:Hid (bitR zs k=true):=by show _=_;rw [HB.out,hm];rfl
  clear hm hbz HB;go_enter func154,ntmps154
  go_wp2;go_ret
  rw [HB2.out];exact ⟨rfl,rfl⟩
theorem VL (g n cap:Nat) (zs:List Int) (k:Nat) (w:World) (h:Own 0 w (.slice (some ⟨g,0,none⟩) n cap) zs) (hb:Bys zs) (hl:zs.length<=1000000) (hk:k<zs.length*8):
  Calls prog 86 #[.slice (some ⟨g,0,none⟩) n cap,.int .i64 k] w fun e w'=>e=.returned (.tuple #[])/\Own 0 w' (.slice (some ⟨g,0,none⟩) n cap) (zs.set (k/8) (bits .or .u8 (zs.getD (k/8) 0) (2^(k%8)%256)))/\Ch w.heap.size (fun x=>x=g) w w':=by
 obtain ⟨hn,b1,b2,hst⟩:=JL h (k/8) (by omega);obtain ⟨-,-,hcap,hm,-⟩:=h.cur;unfold maxLen at hm;have hkj:((k:Int)/8)=((k/8:Nat):Int):=by omega
 have hkr:((k:Int)%8)=((k%8:Nat):Int):=by omega
 have hr8:k%8<8:=by omega
 have hj:k/8<n:=by omega
 have HS:Hid (∀y:Int,Own 0 (w.setCell ⟨g,k/8,none⟩ (.int .u8 y)) (.slice (some ⟨g,0,none⟩) n cap) (zs.set (k/8) y)):=hst;have hzb:=hb.at (k/8);obtain ⟨z,hz'⟩:∃z,zs.getD (k/8) 0=z:=⟨_,rfl⟩;rw [hz'] at b1 hzb ⊢;obtain ⟨j,hj'⟩:∃j,k/8=j:=⟨_,rfl⟩;obtain ⟨r,hr'⟩:∃r,k%8=r:=⟨_,rfl⟩;rw [hj'] at b1 b2 hkj hj HS ⊢;rw [hr'] at hkr hr8 ⊢;have HL:Hid (n<=1000000):=by show _<=_;omega
 have hn1:=HL.out;clear hz' hj' hr' h hst hb hn hl hk;go_enter func86,ntmps86
 go_wp2;go_region
 go_end0
 exact ⟨rfl,HS.out _,(Ch.set (F:=fun x=>x=g) rfl _ _).drew⟩
theorem UI (g n cap:Nat) (zs:List Int) (k:Nat) (w:World) (h:Own 0 w (.slice (some ⟨g,0,none⟩) n cap) zs) (hb:Bys zs) (hl:zs.length<=1000000) (hk:k<zs.length*8):
  Calls prog 113 #[.slice (some ⟨g,0,none⟩) n cap,.int .i64 k] w fun e w'=>e=.returned (.tuple #[])/\Own 0 w' (.slice (some ⟨g,0,none⟩) n cap) (zs.set (k/8) (bits .andNot .u8 (zs.getD (k/8) 0) (2^(k%8)%256)))/\Ch w.heap.size (fun x=>x=g) w w':=by
 obtain ⟨hn,b1,b2,hst⟩:=JL h (k/8) (by omega);obtain ⟨-,-,hcap,hm,-⟩:=h.cur;unfold maxLen at hm;have hkj:((k:Int)/8)=((k/8:Nat):Int):=by omega
 have hkr:((k:Int)%8)=((k%8:Nat):Int):=by omega
 have hr8:k%8<8:=by omega
 have hj:k/8<n:=by omega
 have HS:Hid (∀y:Int,Own 0 (w.setCell ⟨g,k/8,none⟩ (.int .u8 y)) (.slice (some ⟨g,0,none⟩) n cap) (zs.set (k/8) y)):=hst;have hzb:=hb.at (k/8);obtain ⟨z,hz'⟩:∃z,zs.getD (k/8) 0=z:=⟨_,rfl⟩;rw [hz'] at b1 hzb ⊢;obtain ⟨j,hj'⟩:∃j,k/8=j:=⟨_,rfl⟩;obtain ⟨r,hr'⟩:∃r,k%8=r:=⟨_,rfl⟩;rw [hj'] at b1 b2 hkj hj HS ⊢;rw [hr'] at hkr hr8 ⊢;have HL:Hid (n<=1000000):=by show _<=_;omega
 have hn1:=HL.out;clear hz' hj' hr' h hst hb hn hl hk;go_enter func113,ntmps113
 go_wp2;go_region
 go_end0
 exact ⟨rfl,HS.out _,(Ch.set (F:=fun x=>x=g) rfl _ _).drew⟩
end Go.Proofs.YtaijfhadecennaaGreat.Oct.Sps
namespace Go.Proofs.YtaijfhadecennaaGreat.Oct.Sps
open Go.RowKit
theorem ones_any (c:Int) (w:World) (h0:0<=c) (h1:c<=255):
  Calls prog 115 #[.int .u8 c] w fun e w'=>e=.returned (.int .i64 (Lib.onesCount c.toNat))/\w=w':=by
 go_enter func115,ntmps115
 go_wp2;go_ret
 refine ⟨?_,rfl⟩;have e:wrap64 (Lib.pop8 c)=(Lib.onesCount c.toNat:Int):=by unfold wrap64;exact Lib.pop8_int c h0 h1
 rw [<-e];simp
theorem ntz_any (c:Int) (w:World) (h0:0<=c) (h1:c<=255):
  Calls prog 159 #[.int .u8 c] w fun e w'=>e=.returned (.int .i64 (Lib.trailingZeros8 c.toNat))/\w=w':=by
 go_enter func159,ntmps159
 go_wp2;go_ret
 refine ⟨?_,rfl⟩;have e:wrap64 (Lib.ntz8 c)=(Lib.trailingZeros8 c.toNat:Int):=by unfold wrap64;exact Lib.ntz8_int c h0 h1
 rw [<-e];simp
section
variable {w w':World} {s a ca b cb:Nat} {F:Nat->Prop} {S:List Int}
theorem fB (h:SpX w s a ca b cb F S) (j:Nat) (hj:j<(S.length+7)/8):Calls prog 116 #[.pointer (some ⟨s,0,none⟩),.int .i64 j] w fun e w'=>e=.returned (.int .u8 (tkY S j))/\Below w.heap.size w w':=by
 obtain ⟨-,c1,c2⟩:=h.at;have hhi:=h.ok.hi;have ra:=h.rowA.cells j (by rw [zJ];exact hj);have rb:=h.rowB.cells j (by rw [bitL_len];exact hj);rw [qT] at ra rb;have hor:=tk_or h.ok hj;obtain ⟨x,hx⟩:∃x,(lasL S).getD j 0=x:=⟨_,rfl⟩;obtain ⟨y,hy⟩:∃y,(bitL S).getD j 0=y:=⟨_,rfl⟩;have hxb:=(kN S).at j;have hyb:=(bitL_bys S).at j;obtain ⟨n,hn⟩:∃n,(S.length+7)/8=n:=⟨_,rfl⟩;have hn1:n<=1000000:=by omega
 rw [hx] at ra hor hxb;rw [hy] at rb hor hyb;rw [hn] at c1 c2 hj;obtain ⟨-,-,k1,k2,-⟩:=h.last.cur;obtain ⟨-,-,k3,k4,-⟩:=h.next.cur;rw [hn] at k1 k3;unfold maxLen at k2 k4;clear h hx hy hn hhi;go_enter func116,ntmps116
 go_wp2;go_quiet (fail)
 go_wp2;go_ret
 exact ⟨rfl,⟨rfl,rfl,rfl,jB _,fun _ _=>rfl⟩⟩
end
end Go.Proofs.YtaijfhadecennaaGreat.Oct.Sps
namespace Go.Proofs.YtaijfhadecennaaGreat.Oct.Sps
open Go.RowKit
theorem bitR_las {S:List Int} {k:Nat} (hk:k<S.length):bitR (lasL S) k=laB (S.getD k 0):=YA (by omega)
theorem bitR_bit {S:List Int} {k:Nat} (hk:k<S.length):bitR (bitL S) k=usB (S.getD k 0):=YA (by omega)
section
variable {w w':World} {s a ca b cb:Nat} {F:Nat->Prop} {S:List Int}
theorem SpX.hasA (h:SpX w s a ca b cb F S) (k:Nat) (hk:k<S.length):Calls prog 154 #[.slice (some ⟨a,0,none⟩) ((S.length+7)/8) ca,.int .i64 k] w fun e w'=>e=.returned (.bool (laB (S.getD k 0)))/\w=w':=by
 have hA:=ZG _ ca (lasL S) k w h.rowA (by rw [zJ];have:=h.ok.hi;omega) (by rw [zJ];omega);rw [zJ,bitR_las hk] at hA;exact hA
theorem SpX.hasB (h:SpX w s a ca b cb F S) (k:Nat) (hk:k<S.length):Calls prog 154 #[.slice (some ⟨b,0,none⟩) ((S.length+7)/8) cb,.int .i64 k] w fun e w'=>e=.returned (.bool (usB (S.getD k 0)))/\w=w':=by
 have hB:=ZG _ cb (bitL S) k w h.rowB (by rw [bitL_len];have:=h.ok.hi;omega) (by rw [bitL_len];omega);rw [bitL_len,bitR_bit hk] at hB;exact hB
theorem la03:laB 0=false/\laB 1=true/\laB 2=false/\laB 3=true:=⟨rfl,rfl,rfl,rfl⟩
theorem us03:usB 0=false/\usB 1=true/\usB 2=true/\usB 3=false:=⟨rfl,rfl,rfl,rfl⟩
theorem XX (h:SpX w s a ca b cb F S) (k:Nat) (hk:k<S.length):Calls prog 160 #[.pointer (some ⟨s,0,none⟩),.int .i64 k] w fun e w'=>e=.returned (.bool (S.getD k 0==0))/\w=w':=by
 obtain ⟨-,c1,c2⟩:=h.at;have hA:=h.hasA k hk;have hB:=h.hasB k hk;have hv3:=h.ok.at k;obtain ⟨v,hv⟩:∃v,S.getD k 0=v:=⟨_,rfl⟩;rw [hv] at hA hB hv3 ⊢;obtain ⟨n,hn⟩:∃n,(S.length+7)/8=n:=⟨_,rfl⟩;rw [hn] at c1 c2 hA hB;have hc:v=0\/v=1\/v=2\/v=3:=by omega
 clear h hv hk hv3 hn;rcases hc with rfl|rfl|rfl|rfl
 all_goals (
  simp only [la03.1,la03.2.1,la03.2.2.1,la03.2.2.2] at hA;simp only [us03.1,us03.2.1,us03.2.2.1,us03.2.2.2] at hB;go_enter func160,ntmps160
  go_wp2_with (go_at_call 154;first|(refine hA.mono ?_;clear hA;rintro e w' ⟨rfl,rfl⟩)|(refine hB.mono ?_;rintro e w' ⟨rfl,rfl⟩))
  go_ret
  exact ⟨rfl,rfl⟩)
theorem ZK (h:SpX w s a ca b cb F S) (k:Nat) (hk:k<S.length):Calls prog 161 #[.pointer (some ⟨s,0,none⟩),.int .i64 k] w fun e w'=>e=.returned (.bool (S.getD k 0==1))/\w=w':=by
 obtain ⟨-,c1,c2⟩:=h.at;have hA:=h.hasA k hk;have hB:=h.hasB k hk;have hv3:=h.ok.at k;obtain ⟨v,hv⟩:∃v,S.getD k 0=v:=⟨_,rfl⟩;rw [hv] at hA hB hv3 ⊢;obtain ⟨n,hn⟩:∃n,(S.length+7)/8=n:=⟨_,rfl⟩;rw [hn] at c1 c2 hA hB;have hc:v=0\/v=1\/v=2\/v=3:=by omega
 clear h hv hk hv3 hn;rcases hc with rfl|rfl|rfl|rfl
 all_goals (
  simp only [la03.1,la03.2.1,la03.2.2.1,la03.2.2.2] at hA;simp only [us03.1,us03.2.1,us03.2.2.1,us03.2.2.2] at hB;go_enter func161,ntmps161
  go_wp2_with (go_at_call 154;first|(refine hA.mono ?_;clear hA;rintro e w' ⟨rfl,rfl⟩)|(refine hB.mono ?_;rintro e w' ⟨rfl,rfl⟩))
  go_ret
  exact ⟨rfl,rfl⟩)
theorem fW (h:SpX w s a ca b cb F S) (k:Nat) (hk:k<S.length):Calls prog 162 #[.pointer (some ⟨s,0,none⟩),.int .i64 k] w fun e w'=>e=.returned (.bool (S.getD k 0==2))/\w=w':=by
 obtain ⟨-,c1,c2⟩:=h.at;have hA:=h.hasA k hk;have hB:=h.hasB k hk;have hv3:=h.ok.at k;obtain ⟨v,hv⟩:∃v,S.getD k 0=v:=⟨_,rfl⟩;rw [hv] at hA hB hv3 ⊢;obtain ⟨n,hn⟩:∃n,(S.length+7)/8=n:=⟨_,rfl⟩;rw [hn] at c1 c2 hA hB;have hc:v=0\/v=1\/v=2\/v=3:=by omega
 clear h hv hk hv3 hn;rcases hc with rfl|rfl|rfl|rfl
 all_goals (
  simp only [la03.1,la03.2.1,la03.2.2.1,la03.2.2.2] at hA;simp only [us03.1,us03.2.1,us03.2.2.1,us03.2.2.2] at hB;go_enter func162,ntmps162
  go_wp2_with (go_at_call 154;first|(refine hA.mono ?_;clear hA;rintro e w' ⟨rfl,rfl⟩)|(refine hB.mono ?_;rintro e w' ⟨rfl,rfl⟩))
  go_ret
  exact ⟨rfl,rfl⟩)
theorem KT (h:SpX w s a ca b cb F S) (k:Nat) (hk:k<S.length):Calls prog 163 #[.pointer (some ⟨s,0,none⟩),.int .i64 k] w fun e w'=>e=.returned (.bool (S.getD k 0==3))/\w=w':=by
 obtain ⟨-,c1,c2⟩:=h.at;have hA:=h.hasA k hk;have hB:=h.hasB k hk;have hv3:=h.ok.at k;obtain ⟨v,hv⟩:∃v,S.getD k 0=v:=⟨_,rfl⟩;rw [hv] at hA hB hv3 ⊢;obtain ⟨n,hn⟩:∃n,(S.length+7)/8=n:=⟨_,rfl⟩;rw [hn] at c1 c2 hA hB;have hc:v=0\/v=1\/v=2\/v=3:=by omega
 clear h hv hk hv3 hn;rcases hc with rfl|rfl|rfl|rfl
 all_goals (
  simp only [la03.1,la03.2.1,la03.2.2.1,la03.2.2.2] at hA;simp only [us03.1,us03.2.1,us03.2.2.1,us03.2.2.2] at hB;go_enter func163,ntmps163
  go_wp2_with (go_at_call 154;first|(refine hA.mono ?_;clear hA;rintro e w' ⟨rfl,rfl⟩)|(refine hB.mono ?_;rintro e w' ⟨rfl,rfl⟩))
  go_ret
  exact ⟨rfl,rfl⟩)
def teV (s:Nat):Value:=.agg #[.func (.func 160) #[.pointer (some ⟨s,0,none⟩)] #[],.func (.func 161) #[.pointer (some ⟨s,0,none⟩)] #[],.func (.func 162) #[.pointer (some ⟨s,0,none⟩)] #[],.func (.func 163) #[.pointer (some ⟨s,0,none⟩)] #[]]
theorem te0 (s:Nat) (w:World):(Instr.index 182 (teV s) (.int .i64 0)).run prog w=.ok (.func (.func 160) #[.pointer (some ⟨s,0,none⟩)] #[]) w:=by kernel_rfl
theorem te1 (s:Nat) (w:World):(Instr.index 182 (teV s) (.int .i64 1)).run prog w=.ok (.func (.func 161) #[.pointer (some ⟨s,0,none⟩)] #[]) w:=by kernel_rfl
theorem te2 (s:Nat) (w:World):(Instr.index 182 (teV s) (.int .i64 2)).run prog w=.ok (.func (.func 162) #[.pointer (some ⟨s,0,none⟩)] #[]) w:=by kernel_rfl
theorem te3 (s:Nat) (w:World):(Instr.index 182 (teV s) (.int .i64 3)).run prog w=.ok (.func (.func 163) #[.pointer (some ⟨s,0,none⟩)] #[]) w:=by kernel_rfl
def stN (S:List Int) (p:Int):Int:=if inB S p then S.getD p.toNat 0 else 4
theorem stN_in {S:List Int} {k:Nat} (hk:k<S.length):stN S k=S.getD k 0:=by
 unfold stN inB;rw [jE (show (0:Int)<=k by omega),jE (show (k:Int)<S.length by omega)];rfl
theorem state_no (h:SpX w s a ca b cb F S) (p:Int) (hp:inB S p=false):Calls prog 112 #[.pointer (some ⟨s,0,none⟩),.int .i64 p] w fun e w'=>e=.returned (.int .i64 4)/\Below w.heap.size w w':=by
 have hm:=made_any h;have hh:=has_any h p;rw [hp] at hh;clear h hp;go_enter func112,ntmps112
 go_wp2_with (first|(go_at_call 109;refine hm.mono ?_;rintro e w' ⟨rfl,rfl⟩)|(go_at_call 111;refine hh.mono ?_;rintro e w' ⟨rfl,rfl⟩))
 go_ret
 exact ⟨rfl,Below.refl _ _⟩
theorem state_0 (h:SpX w s a ca b cb F S) (k:Nat) (hk:k<S.length) (hv:S.getD k 0=0):Calls prog 112 #[.pointer (some ⟨s,0,none⟩),.int .i64 k] w fun e w'=>e=.returned (.int .i64 0)/\Below w.heap.size w w':=by
 have hm:=made_any h;have hh:=has_any h k;rw [show inB S k=true by unfold inB;rw [jE (show (0:Int)<=k by omega),jE (show (k:Int)<S.length by omega)];rfl] at hh;have HS:Hid (∀w',Below w.heap.size w w'->SpX w' s a ca b cb F S):=fun w' hb=>h.below hb
 have H0:Hid (∀w',Below w.heap.size w w'->Calls prog 160 #[.pointer (some ⟨s,0,none⟩),.int .i64 k] w' fun e w''=>e=.returned (.bool true)/\w'=w''):=fun w' hb=>by
  have:=XX (HS.out w' hb) k hk;rw [hv] at this;exact this
 clear h hk hv HS;go_enter func112,ntmps112
 go_wp2_with (first|(go_at_call 109;refine hm.mono ?_;rintro e w' ⟨rfl,rfl⟩)|(go_at_call 111;refine hh.mono ?_;rintro e w' ⟨rfl,rfl⟩))
 have e0:=te0 s;simp only [teV] at e0;refine wp_loop_rounds 1 ?_;rw [rounds_succ];go_wp2_with (first|(go_at_call 160;refine (H0.out _ ((Below.refl _ _).alloc (jB _) _)).mono ?_;rintro e w' ⟨rfl,rfl⟩));go_ret
 exact ⟨rfl,((Below.refl _ _).alloc (jB _) _)⟩
theorem state_1 (h:SpX w s a ca b cb F S) (k:Nat) (hk:k<S.length) (hv:S.getD k 0=1):Calls prog 112 #[.pointer (some ⟨s,0,none⟩),.int .i64 k] w fun e w'=>e=.returned (.int .i64 1)/\Below w.heap.size w w':=by
 have hm:=made_any h;have hh:=has_any h k;rw [show inB S k=true by unfold inB;rw [jE (show (0:Int)<=k by omega),jE (show (k:Int)<S.length by omega)];rfl] at hh;have HS:Hid (∀w',Below w.heap.size w w'->SpX w' s a ca b cb F S):=fun w' hb=>h.below hb
 have H0:Hid (∀w',Below w.heap.size w w'->Calls prog 160 #[.pointer (some ⟨s,0,none⟩),.int .i64 k] w' fun e w''=>e=.returned (.bool false)/\w'=w''):=fun w' hb=>by
  have:=XX (HS.out w' hb) k hk;rw [hv] at this;exact this
 have H1:Hid (∀w',Below w.heap.size w w'->Calls prog 161 #[.pointer (some ⟨s,0,none⟩),.int .i64 k] w' fun e w''=>e=.returned (.bool true)/\w'=w''):=fun w' hb=>by
  have:=ZK (HS.out w' hb) k hk;rw [hv] at this;exact this
 clear h hk hv HS;go_enter func112,ntmps112
 go_wp2_with (first|(go_at_call 109;refine hm.mono ?_;rintro e w' ⟨rfl,rfl⟩)|(go_at_call 111;refine hh.mono ?_;rintro e w' ⟨rfl,rfl⟩))
 have e0:=te0 s;have e1:=te1 s;simp only [teV] at e0 e1;refine wp_loop_rounds 2 ?_
 iterate 2 (rw [rounds_succ];go_wp2_with (first|(go_at_call 160;refine (H0.out _ ((Below.refl _ _).alloc (jB _) _)).mono ?_;rintro e w' ⟨rfl,rfl⟩)|(go_at_call 161;refine (H1.out _ ((Below.refl _ _).alloc (jB _) _)).mono ?_;rintro e w' ⟨rfl,rfl⟩)))
 go_ret
 exact ⟨rfl,((Below.refl _ _).alloc (jB _) _)⟩
theorem state_2 (h:SpX w s a ca b cb F S) (k:Nat) (hk:k<S.length) (hv:S.getD k 0=2):Calls prog 112 #[.pointer (some ⟨s,0,none⟩),.int .i64 k] w fun e w'=>e=.returned (.int .i64 2)/\Below w.heap.size w w':=by
 have hm:=made_any h;have hh:=has_any h k;rw [show inB S k=true by unfold inB;rw [jE (show (0:Int)<=k by omega),jE (show (k:Int)<S.length by omega)];rfl] at hh;have HS:Hid (∀w',Below w.heap.size w w'->SpX w' s a ca b cb F S):=fun w' hb=>h.below hb
 have H0:Hid (∀w',Below w.heap.size w w'->Calls prog 160 #[.pointer (some ⟨s,0,none⟩),.int .i64 k] w' fun e w''=>e=.returned (.bool false)/\w'=w''):=fun w' hb=>by
  have:=XX (HS.out w' hb) k hk;rw [hv] at this;exact this
 have H1:Hid (∀w',Below w.heap.size w w'->Calls prog 161 #[.pointer (some ⟨s,0,none⟩),.int .i64 k] w' fun e w''=>e=.returned (.bool false)/\w'=w''):=fun w' hb=>by
  have:=ZK (HS.out w' hb) k hk;rw [hv] at this;exact this
 have H2:Hid (∀w',Below w.heap.size w w'->Calls prog 162 #[.pointer (some ⟨s,0,none⟩),.int .i64 k] w' fun e w''=>e=.returned (.bool true)/\w'=w''):=fun w' hb=>by
  have:=fW (HS.out w' hb) k hk;rw [hv] at this;exact this
 clear h hk hv HS;go_enter func112,ntmps112
 go_wp2_with (first|(go_at_call 109;refine hm.mono ?_;rintro e w' ⟨rfl,rfl⟩)|(go_at_call 111;refine hh.mono ?_;rintro e w' ⟨rfl,rfl⟩))
 have e0:=te0 s;have e1:=te1 s;have e2:=te2 s;simp only [teV] at e0 e1 e2;refine wp_loop_rounds 3 ?_
 iterate 3 (rw [rounds_succ];go_wp2_with (first|(go_at_call 160;refine (H0.out _ ((Below.refl _ _).alloc (jB _) _)).mono ?_;rintro e w' ⟨rfl,rfl⟩)|(go_at_call 161;refine (H1.out _ ((Below.refl _ _).alloc (jB _) _)).mono ?_;rintro e w' ⟨rfl,rfl⟩)|(go_at_call 162;refine (H2.out _ ((Below.refl _ _).alloc (jB _) _)).mono ?_;rintro e w' ⟨rfl,rfl⟩)))
 go_ret
 exact ⟨rfl,((Below.refl _ _).alloc (jB _) _)⟩
theorem state_3 (h:SpX w s a ca b cb F S) (k:Nat) (hk:k<S.length) (hv:S.getD k 0=3):Calls prog 112 #[.pointer (some ⟨s,0,none⟩),.int .i64 k] w fun e w'=>e=.returned (.int .i64 3)/\Below w.heap.size w w':=by
 have hm:=made_any h;have hh:=has_any h k;rw [show inB S k=true by unfold inB;rw [jE (show (0:Int)<=k by omega),jE (show (k:Int)<S.length by omega)];rfl] at hh;have HS:Hid (∀w',Below w.heap.size w w'->SpX w' s a ca b cb F S):=fun w' hb=>h.below hb
 have H0:Hid (∀w',Below w.heap.size w w'->Calls prog 160 #[.pointer (some ⟨s,0,none⟩),.int .i64 k] w' fun e w''=>e=.returned (.bool false)/\w'=w''):=fun w' hb=>by
  have:=XX (HS.out w' hb) k hk;rw [hv] at this;exact this
 have H1:Hid (∀w',Below w.heap.size w w'->Calls prog 161 #[.pointer (some ⟨s,0,none⟩),.int .i64 k] w' fun e w''=>e=.returned (.bool false)/\w'=w''):=fun w' hb=>by
  have:=ZK (HS.out w' hb) k hk;rw [hv] at this;exact this
 have H2:Hid (∀w',Below w.heap.size w w'->Calls prog 162 #[.pointer (some ⟨s,0,none⟩),.int .i64 k] w' fun e w''=>e=.returned (.bool false)/\w'=w''):=fun w' hb=>by
  have:=fW (HS.out w' hb) k hk;rw [hv] at this;exact this
 have H3:Hid (∀w',Below w.heap.size w w'->Calls prog 163 #[.pointer (some ⟨s,0,none⟩),.int .i64 k] w' fun e w''=>e=.returned (.bool true)/\w'=w''):=fun w' hb=>by
  have:=KT (HS.out w' hb) k hk;rw [hv] at this;exact this
 clear h hk hv HS;go_enter func112,ntmps112
 go_wp2_with (first|(go_at_call 109;refine hm.mono ?_;rintro e w' ⟨rfl,rfl⟩)|(go_at_call 111;refine hh.mono ?_;rintro e w' ⟨rfl,rfl⟩))
 have e0:=te0 s;have e1:=te1 s;have e2:=te2 s;have e3:=te3 s;simp only [teV] at e0 e1 e2 e3;refine wp_loop_rounds 4 ?_
 iterate 4 (rw [rounds_succ];go_wp2_with (first|(go_at_call 160;refine (H0.out _ ((Below.refl _ _).alloc (jB _) _)).mono ?_;rintro e w' ⟨rfl,rfl⟩)|(go_at_call 161;refine (H1.out _ ((Below.refl _ _).alloc (jB _) _)).mono ?_;rintro e w' ⟨rfl,rfl⟩)|(go_at_call 162;refine (H2.out _ ((Below.refl _ _).alloc (jB _) _)).mono ?_;rintro e w' ⟨rfl,rfl⟩)|(go_at_call 163;refine (H3.out _ ((Below.refl _ _).alloc (jB _) _)).mono ?_;rintro e w' ⟨rfl,rfl⟩)))
 go_ret
 exact ⟨rfl,((Below.refl _ _).alloc (jB _) _)⟩
end
end Go.Proofs.YtaijfhadecennaaGreat.Oct.Sps
namespace Go.Proofs.YtaijfhadecennaaGreat.Oct.Sps
open Go.RowKit
section
variable {w w':World} {s a ca b cb:Nat} {F:Nat->Prop} {S:List Int}
theorem state_any (h:SpX w s a ca b cb F S) (p:Int):Calls prog 112 #[.pointer (some ⟨s,0,none⟩),.int .i64 p] w fun e w'=>e=.returned (.int .i64 (stN S p))/\Below w.heap.size w w':=by
 by_cases hp:inB S p=true
 ·obtain ⟨h0,h1⟩:0<=p/\p<(S.length:Int):=by unfold inB at hp;simpa using hp
  obtain ⟨k,rfl⟩:=jW h0;have hk:k<S.length:=by omega
  have h3:=h.ok.at k;rw [stN_in hk];have hc:S.getD k 0=0\/S.getD k 0=1\/S.getD k 0=2\/S.getD k 0=3:=by omega
  rcases hc with hc|hc|hc|hc
  ·rw [hc];exact state_0 h k hk hc
  ·rw [hc];exact state_1 h k hk hc
  ·rw [hc];exact state_2 h k hk hc
  ·rw [hc];exact state_3 h k hk hc
 ·have hp':inB S p=false:=by simpa using hp
  have e:stN S p=4:=by unfold stN;rw [if_neg hp]
  rw [e];exact state_no h p hp'
theorem SpX.drop (h:SpX w s a ca b cb F S) {k:Nat} (hk:k<S.length) {z:Int} (hz:0<=z/\z<=3) (hu:usB z=false) (hl:laB z=laB (S.getD k 0)) (hn:Own 0 w' (.slice (some ⟨b,0,none⟩) ((S.length+7)/8) cb) ((bitL S).set (k/8) (bits .andNot .u8 ((bitL S).getD (k/8) 0) (2^(k%8)%256)))) (hc:Ch w.heap.size (fun x=>x=b) w w'):SpX w' s a ca b cb F (S.set k z):=
 h.next' hc.size (fun g hg hb=>hc.block g (h.lt g hg) hb) (by rw [jY]) (h.ok.set k hz.1 hz.2) (lasL_set hk hl) (by rw [bitL_drop hk hu];exact hn)
theorem SpX.take (h:SpX w s a ca b cb F S) {k:Nat} (hk:k<S.length) (h0:S.getD k 0=0) (hn:Own 0 w' (.slice (some ⟨b,0,none⟩) ((S.length+7)/8) cb) ((bitL S).set (k/8) (bits .or .u8 ((bitL S).getD (k/8) 0) (2^(k%8)%256)))) (hc:Ch w.heap.size (fun x=>x=b) w w'):SpX w' s a ca b cb F (S.set k 2):=
 h.next' hc.size (fun g hg hb=>hc.block g (h.lt g hg) hb) (by rw [jY]) (h.ok.set k (by omega) (by omega)) (lasL_set hk (by rw [h0];rfl)) (by rw [bitL_take hk];exact hn)
theorem UP {x:Nat} (hx:F x) (hc:Ch w.heap.size (fun k=>k=x) w w'):Step F F w w':=Step.of (hc.mono (jB _) (fun _ _ e=>e▸hx))
end
end Go.Proofs.YtaijfhadecennaaGreat.Oct.Sps
