/- Part of a proof. -/
import Derived.Test.YtaijfhadecennaaGreatZl
import Derived.StillTailTactics
import Derived.Test.YtaijfhadecennaaGreatRi
open Go.Proofs.Tryz
set_option maxHeartbeats 2000000
namespace Go.Proofs.YtaijfhadecennaaGreat.Oct
open Go.RowKit
def Sl8 (w:World) (B:Nat) (S:Sp):Prop:=
 w.cell? ⟨B,0,none⟩=some (.int .i64 S.g)/\w.cell? ⟨B,1,none⟩=some (.int .i64 S.p)/\w.cell? ⟨B,2,none⟩=some (.int .i64 S.r)/\w.cell? ⟨B,3,none⟩=some (.int .i64 S.h)/\
 w.cell? ⟨B,4,none⟩=some (.int .i64 S.b)/\w.cell? ⟨B,5,none⟩=some (.int .i64 S.l)/\w.cell? ⟨B,6,none⟩=some (.int .i64 S.s)/\w.cell? ⟨B,7,none⟩=some (.int .i64 S.f)
theorem Sl8.lt {w:World} {B:Nat} {S:Sp} (h:Sl8 w B S):B<w.heap.size:=block_lt_of_cell h.1
theorem Sl8.same {w w1:World} {B:Nat} {S:Sp} (h:Sl8 w B S) (k:w1.heap[B]?=w.heap[B]?):Sl8 w1 B S:=by
 obtain ⟨h0,h1,h2,h3,h4,h5,h6,h7⟩:=h;exact ⟨(World.cell?_of_block k).trans h0,(World.cell?_of_block k).trans h1,(World.cell?_of_block k).trans h2,(World.cell?_of_block k).trans h3,(World.cell?_of_block k).trans h4,(World.cell?_of_block k).trans h5,(World.cell?_of_block k).trans h6,(World.cell?_of_block k).trans h7⟩
theorem Sl8.below {w w1:World} {B:Nat} {S:Sp} (h:Sl8 w B S) (k:Below w.heap.size w w1):Sl8 w1 B S:=h.same (k.block B h.lt)
theorem Sl8.at {w:World} {B:Nat} {S:Sp} (h:Sl8 w B S) {k:Nat} (hk:k<8):w.cell? ⟨B,k,none⟩=some (.int .i64 (atS S k)):=by
 obtain ⟨h0,h1,h2,h3,h4,h5,h6,h7⟩:=h;rcases eight hk with rfl|rfl|rfl|rfl|rfl|rfl|rfl|rfl<;>assumption
theorem JK (w:World) (S:Sp) (t:TypeId):Sl8 (w.alloc (.cells #[.int .i64 S.g,.int .i64 S.p,.int .i64 S.r,.int .i64 S.h,.int .i64 S.b,.int .i64 S.l,.int .i64 S.s,.int .i64 S.f] t)) w.heap.size S:=by
 unfold Sl8;simp
def ff (k:Nat):Nat:=match k with
 |0=>214
 |1=>215
 |2=>216
 |3=>217
 |4=>218
 |5=>219
 |6=>220
 |_=>221
def Fds (w:World) (F B:Nat):Prop:=∀k,k<8->w.cell? ⟨F,k*3,none⟩=some (.int .i64 (wdS k:Nat))/\w.cell? ⟨F,k*3+1,none⟩=some (.pointer (some ⟨B,k,none⟩))/\w.cell? ⟨F,k*3+2,none⟩=some (.func (Fn.func (ff k)) #[.pointer (some ⟨B,0,none⟩)] #[])
theorem Fds.lt {w:World} {F B:Nat} (h:Fds w F B):F<w.heap.size:=block_lt_of_cell (h 0 (by omega)).1
theorem Fds.same {w w1:World} {F B:Nat} (h:Fds w F B) (k:w1.heap[F]?=w.heap[F]?):Fds w1 F B:=fun i hi=>by
 obtain ⟨h0,h1,h2⟩:=h i hi;exact ⟨(World.cell?_of_block k).trans h0,(World.cell?_of_block k).trans h1,(World.cell?_of_block k).trans h2⟩
theorem Fds.below {w w1:World} {F B:Nat} (h:Fds w F B) (k:Below w.heap.size w w1):Fds w1 F B:=h.same (k.block F h.lt)
theorem fds_new (w:World) (B:Nat) (t:TypeId):Fds (w.alloc (.cells #[.int .i64 8,.pointer (some ⟨B,0,none⟩),.func (Fn.func 214) #[.pointer (some ⟨B,0,none⟩)] #[],.int .i64 4,.pointer (some ⟨B,1,none⟩),.func (Fn.func 215) #[.pointer (some ⟨B,0,none⟩)] #[],.int .i64 4,.pointer (some ⟨B,2,none⟩),.func (Fn.func 216) #[.pointer (some ⟨B,0,none⟩)] #[],.int .i64 2,.pointer (some ⟨B,3,none⟩),.func (Fn.func 217) #[.pointer (some ⟨B,0,none⟩)] #[],.int .i64 4,.pointer (some ⟨B,4,none⟩),.func (Fn.func 218) #[.pointer (some ⟨B,0,none⟩)] #[],.int .i64 4,.pointer (some ⟨B,5,none⟩),.func (Fn.func 219) #[.pointer (some ⟨B,0,none⟩)] #[],.int .i64 4,.pointer (some ⟨B,6,none⟩),.func (Fn.func 220) #[.pointer (some ⟨B,0,none⟩)] #[],.int .i64 4,.pointer (some ⟨B,7,none⟩),.func (Fn.func 221) #[.pointer (some ⟨B,0,none⟩)] #[]] t)) w.heap.size B:=by
 intro k hk;rcases eight hk with rfl|rfl|rfl|rfl|rfl|rfl|rfl|rfl<;>simp [World.cell?_alloc_at,ff,wdS]
set_option maxRecDepth 20000 in
theorem ZL (B:Nat) (w:World):
  Calls prog 184 #[.pointer (some ⟨B,0,none⟩)] w fun e w'=>e=.returned (.slice (some ⟨w.heap.size,0,none⟩) 8 8)/\Fds w' w.heap.size B/\Below w.heap.size w w'/\w'.heap.size=w.heap.size+1:=by
 go_enter func184,ntmps184
 go_wp2_with fail
 go_still_tail 56,(by kernel_rfl)
 go_wp2;go_ret
 refine ⟨rfl,(fds_new w B 214).same rfl,((Below.refl _ _).alloc (jB _) _).drew,?_⟩;show (w.heap.push _).size=_;simp
theorem within_any (n a b:Int) (w:World):
  Calls prog 252 #[.int .i64 n,.int .i64 a,.int .i64 b] w fun e w'=>e=.returned (.bool (decide (a<=n/\n<=b)))/\w=w':=by
 by_cases h1:a<=n
 ·by_cases h2:n<=b
  ·rw [jE (show a<=n/\n<=b from ⟨h1,h2⟩)];go_enter func252,ntmps252
   go_wp2;go_ret
   exact ⟨rfl,rfl⟩
  ·rw [jH (show ¬(a<=n/\n<=b) from fun h=>h2 h.2)];go_enter func252,ntmps252
   go_wp2;go_ret
   exact ⟨rfl,rfl⟩
 ·rw [jH (show ¬(a<=n/\n<=b) from fun h=>h1 h.1)];go_enter func252,ntmps252
  go_wp2;go_ret
  exact ⟨rfl,rfl⟩
theorem JC {P:Program} {f:FuncId} {args:Array Value} {w:World} {v:Value} (h:Calls P f args w fun e w'=>e=.returned v/\w=w'):Calls P f args w fun e w'=>e=.returned v/\w'=w:=
 h.mono fun _ _ ⟨a,b⟩=>⟨a,b.symm⟩
theorem within_v (n a b:Int) (B:Bool) (h:decide (a<=n/\n<=b)=B) (w:World):
  Calls prog 252 #[.int .i64 n,.int .i64 a,.int .i64 b] w fun e w'=>e=.returned (.bool B)/\w=w':=by
 subst h;exact within_any n a b w
theorem GB (B:Nat) (S:Sp) (n:Int) (V:Bool) (w:World) (h:Sl8 w B S) (hp:8<=S.p/\S.p<=4096) (hV:ldB S.p n=V):
  Calls prog 253 #[.pointer (some ⟨B,0,none⟩),.int .i64 n] w fun e w'=>e=.returned (.bool V)/\w=w':=by
 obtain ⟨_,h1,_⟩:=h;obtain ⟨P,hP⟩:∃P,S.p=P:=⟨_,rfl⟩;rw [hP] at h1 hp hV;clear hP;by_cases hn:n=0
 ·rw [show ldB P n=true from jE (.inl hn)] at hV;subst hn hV;go_enter func253,ntmps253
  go_wp2;go_ret
  exact ⟨rfl,rfl⟩
 ·have e:ldB P n=decide (2<=n/\n<=P-1):=by unfold ldB;simp [hn]
  rw [e] at hV;have hnb:(n==0)=false:=by simpa using hn
  have c:=within_v n 2 (P-1) V hV w;clear e hV;go_enter func253,ntmps253
  go_wp2_with fail
  refine c.mono ?_;clear c;rintro e w1 ⟨rfl,rfl⟩;go_wp2;go_ret
  exact ⟨rfl,rfl⟩
theorem genFits_any (B:Nat) (S:Sp) (w:World) (h:Sl8 w B S):
  Calls prog 214 #[.pointer (some ⟨B,0,none⟩)] w fun e w'=>e=.returned (.bool (fitS S 0))/\∃n,w'=w.drewN n:=by
 obtain ⟨h0,h1,h2,h3,h4,h5,h6,h7⟩:=h;have hV:decide (1<=S.g/\S.g<=1152921504606846976)=fitS S 0:=rfl;obtain ⟨V,hv⟩:∃V,fitS S 0=V:=⟨_,rfl⟩;rw [hv] at hV ⊢;have c:=within_v S.g 1 (1152921504606846976) V hV w;clear hv hV;go_enter func214,ntmps214
 go_wp2_with fail
 refine c.mono ?_;clear c;rintro e w1 ⟨rfl,rfl⟩;go_wp2;go_ret
 exact ⟨rfl,0,rfl⟩
theorem gQ (B:Nat) (S:Sp) (w:World) (h:Sl8 w B S):
  Calls prog 215 #[.pointer (some ⟨B,0,none⟩)] w fun e w'=>e=.returned (.bool (fitS S 1))/\∃n,w'=w.drewN n:=by
 obtain ⟨h0,h1,h2,h3,h4,h5,h6,h7⟩:=h;have hV:decide (8<=S.p/\S.p<=4096)=fitS S 1:=rfl;obtain ⟨V,hv⟩:∃V,fitS S 1=V:=⟨_,rfl⟩;rw [hv] at hV ⊢;have c:=within_v S.p 8 (4096) V hV w;clear hv hV;go_enter func215,ntmps215
 go_wp2_with fail
 refine c.mono ?_;clear c;rintro e w1 ⟨rfl,rfl⟩;go_wp2;go_ret
 exact ⟨rfl,0,rfl⟩
theorem gH (B:Nat) (S:Sp) (w:World) (h:Sl8 w B S) (hp:8<=S.p/\S.p<=4096):
  Calls prog 216 #[.pointer (some ⟨B,0,none⟩)] w fun e w'=>e=.returned (.bool (fitS S 2))/\∃n,w'=w.drewN n:=by
 have hV:ldB S.p S.r=fitS S 2:=rfl;obtain ⟨V,hv⟩:∃V,fitS S 2=V:=⟨_,rfl⟩;rw [hv] at hV ⊢;have c:=GB B S S.r V w h hp hV;clear hv hV hp;obtain ⟨h0,h1,h2,h3,h4,h5,h6,h7⟩:=h;go_enter func216,ntmps216
 go_wp2_with fail
 refine c.mono ?_;clear c;rintro e w1 ⟨rfl,rfl⟩;go_wp2;go_ret
 exact ⟨rfl,0,rfl⟩
theorem kQ (B:Nat) (S:Sp) (w:World) (h:Sl8 w B S):
  Calls prog 217 #[.pointer (some ⟨B,0,none⟩)] w fun e w'=>e=.returned (.bool (fitS S 3))/\∃n,w'=w.drewN n:=by
 obtain ⟨h0,h1,h2,h3,h4,h5,h6,h7⟩:=h;have hV:fitS S 3=decide ((0<=S.h/\S.h<=32)/\(S.h=0↔S.r=0)):=rfl;obtain ⟨x,hx⟩:∃x,S.h=x:=⟨_,rfl⟩;obtain ⟨r,hr⟩:∃r,S.r=r:=⟨_,rfl⟩;rw [hx,hr] at hV;rw [hx] at h3;rw [hr] at h2;rw [hV];clear hV hx hr;by_cases hin:0<=x/\x<=32
 ·have c:=within_v x 0 32 true (jE hin);by_cases hx0:x=0
  ·by_cases hr0:r=0
   ·rw [jE (show (0<=x/\x<=32)/\(x=0↔r=0) from ⟨hin,by simp [hx0,hr0]⟩)];subst hx0 hr0;go_enter func217,ntmps217
    go_wp2_with fail
    go_quiet ((go_at_call 252;exact Calls.quiet_of_same (JC (c _))))
    go_wp2;go_ret
    exact ⟨rfl,_,rfl⟩
   ·rw [jH (show ¬((0<=x/\x<=32)/\(x=0↔r=0)) from fun h=>hr0 (h.2.1 hx0))];have hrb:(r==0)=false:=by simpa using hr0
    subst hx0;go_enter func217,ntmps217
    go_wp2_with fail
    go_quiet ((go_at_call 252;exact Calls.quiet_of_same (JC (c _))))
    go_wp2;go_ret
    exact ⟨rfl,_,rfl⟩
  ·have hxb:(x==0)=false:=by simpa using hx0
   by_cases hr0:r=0
   ·rw [jH (show ¬((0<=x/\x<=32)/\(x=0↔r=0)) from fun h=>hx0 (h.2.2 hr0))];subst hr0;go_enter func217,ntmps217
    go_wp2_with fail
    go_quiet ((go_at_call 252;exact Calls.quiet_of_same (JC (c _))))
    go_wp2;go_ret
    exact ⟨rfl,_,rfl⟩
   ·rw [jE (show (0<=x/\x<=32)/\(x=0↔r=0) from ⟨hin,by simp [hx0,hr0]⟩)];have hrb:(r==0)=false:=by simpa using hr0
    go_enter func217,ntmps217
    go_wp2_with fail
    go_quiet ((go_at_call 252;exact Calls.quiet_of_same (JC (c _))))
    go_wp2;go_ret
    exact ⟨rfl,_,rfl⟩
 ·rw [jH (show ¬((0<=x/\x<=32)/\(x=0↔r=0)) from fun h=>hin h.1)];have c:=within_v x 0 32 false (jH hin);clear hin;go_enter func217,ntmps217
  go_wp2_with fail
  go_quiet ((go_at_call 252;exact Calls.quiet_of_same (JC (c _))))
  go_wp2;go_ret
  exact ⟨rfl,_,rfl⟩
theorem GQ (B:Nat) (S:Sp) (w:World) (h:Sl8 w B S):
  Calls prog 218 #[.pointer (some ⟨B,0,none⟩)] w fun e w'=>e=.returned (.bool (fitS S 4))/\∃n,w'=w.drewN n:=by
 obtain ⟨h0,h1,h2,h3,h4,h5,h6,h7⟩:=h;have hV:fitS S 4=decide ((0<=S.b/\S.b<=1048576)/\(S.b=0↔S.r=0)):=rfl;obtain ⟨x,hx⟩:∃x,S.b=x:=⟨_,rfl⟩;obtain ⟨r,hr⟩:∃r,S.r=r:=⟨_,rfl⟩;rw [hx,hr] at hV;rw [hx] at h4;rw [hr] at h2;rw [hV];clear hV hx hr;by_cases hin:0<=x/\x<=1048576
 ·have c:=within_v x 0 1048576 true (jE hin);by_cases hx0:x=0
  ·by_cases hr0:r=0
   ·rw [jE (show (0<=x/\x<=1048576)/\(x=0↔r=0) from ⟨hin,by simp [hx0,hr0]⟩)];subst hx0 hr0;go_enter func218,ntmps218
    go_wp2_with fail
    go_quiet ((go_at_call 252;exact Calls.quiet_of_same (JC (c _))))
    go_wp2;go_ret
    exact ⟨rfl,_,rfl⟩
   ·rw [jH (show ¬((0<=x/\x<=1048576)/\(x=0↔r=0)) from fun h=>hr0 (h.2.1 hx0))];have hrb:(r==0)=false:=by simpa using hr0
    subst hx0;go_enter func218,ntmps218
    go_wp2_with fail
    go_quiet ((go_at_call 252;exact Calls.quiet_of_same (JC (c _))))
    go_wp2;go_ret
    exact ⟨rfl,_,rfl⟩
  ·have hxb:(x==0)=false:=by simpa using hx0
   by_cases hr0:r=0
   ·rw [jH (show ¬((0<=x/\x<=1048576)/\(x=0↔r=0)) from fun h=>hx0 (h.2.2 hr0))];subst hr0;go_enter func218,ntmps218
    go_wp2_with fail
    go_quiet ((go_at_call 252;exact Calls.quiet_of_same (JC (c _))))
    go_wp2;go_ret
    exact ⟨rfl,_,rfl⟩
   ·rw [jE (show (0<=x/\x<=1048576)/\(x=0↔r=0) from ⟨hin,by simp [hx0,hr0]⟩)];have hrb:(r==0)=false:=by simpa using hr0
    go_enter func218,ntmps218
    go_wp2_with fail
    go_quiet ((go_at_call 252;exact Calls.quiet_of_same (JC (c _))))
    go_wp2;go_ret
    exact ⟨rfl,_,rfl⟩
 ·rw [jH (show ¬((0<=x/\x<=1048576)/\(x=0↔r=0)) from fun h=>hin h.1)];have c:=within_v x 0 1048576 false (jH hin);clear hin;go_enter func218,ntmps218
  go_wp2_with fail
  go_quiet ((go_at_call 252;exact Calls.quiet_of_same (JC (c _))))
  go_wp2;go_ret
  exact ⟨rfl,_,rfl⟩
theorem GA (B:Nat) (S:Sp) (w:World) (h:Sl8 w B S):
  Calls prog 219 #[.pointer (some ⟨B,0,none⟩)] w fun e w'=>e=.returned (.bool (fitS S 5))/\∃n,w'=w.drewN n:=by
 obtain ⟨h0,h1,h2,h3,h4,h5,h6,h7⟩:=h;have hV:decide (0<=S.l/\S.l<=S.b)=fitS S 5:=rfl;obtain ⟨V,hv⟩:∃V,fitS S 5=V:=⟨_,rfl⟩;rw [hv] at hV ⊢;have c:=within_v S.l 0 (S.b) V hV;clear hv hV;go_enter func219,ntmps219
 go_wp2_with fail
 go_quiet ((go_at_call 252;exact Calls.quiet_of_same (JC (c _))))
 go_wp2;go_ret
 exact ⟨rfl,_,rfl⟩
theorem KR (B:Nat) (S:Sp) (w:World) (h:Sl8 w B S) (hp:8<=S.p/\S.p<=4096):
  Calls prog 220 #[.pointer (some ⟨B,0,none⟩)] w fun e w'=>e=.returned (.bool (fitS S 6))/\∃n,w'=w.drewN n:=by
 have hV:ldB S.p S.s=fitS S 6:=rfl;obtain ⟨V,hv⟩:∃V,fitS S 6=V:=⟨_,rfl⟩;rw [hv] at hV ⊢;have c:=GB B S S.s V w h hp hV;clear hv hV hp;obtain ⟨h0,h1,h2,h3,h4,h5,h6,h7⟩:=h;go_enter func220,ntmps220
 go_wp2_with fail
 refine c.mono ?_;clear c;rintro e w1 ⟨rfl,rfl⟩;go_wp2;go_ret
 exact ⟨rfl,0,rfl⟩
theorem GG (B:Nat) (S:Sp) (w:World) (h:Sl8 w B S) (hp:8<=S.p/\S.p<=4096):
  Calls prog 221 #[.pointer (some ⟨B,0,none⟩)] w fun e w'=>e=.returned (.bool (fitS S 7))/\∃n,w'=w.drewN n:=by
 have hV:ldB S.p S.f=fitS S 7:=rfl;obtain ⟨V,hv⟩:∃V,fitS S 7=V:=⟨_,rfl⟩;rw [hv] at hV ⊢;have c:=GB B S S.f V w h hp hV;clear hv hV hp;obtain ⟨h0,h1,h2,h3,h4,h5,h6,h7⟩:=h;go_enter func221,ntmps221
 go_wp2_with fail
 refine c.mono ?_;clear c;rintro e w1 ⟨rfl,rfl⟩;go_wp2;go_ret
 exact ⟨rfl,0,rfl⟩
theorem fit_any (B:Nat) (S:Sp) (w:World) (h:Sl8 w B S) {k:Nat} (hk:k<8) (hp:1<k->8<=S.p/\S.p<=4096):
  Calls prog (ff k) #[.pointer (some ⟨B,0,none⟩)] w fun e w'=>e=.returned (.bool (fitS S k))/\∃n,w'=w.drewN n:=by
 rcases eight hk with rfl|rfl|rfl|rfl|rfl|rfl|rfl|rfl
 ·exact genFits_any B S w h
 ·exact gQ B S w h
 ·exact gH B S w h (hp (by omega))
 ·exact kQ B S w h
 ·exact GQ B S w h
 ·exact GA B S w h
 ·exact KR B S w h (hp (by omega))
 ·exact GG B S w h (hp (by omega))
structure Chk (w wr:World) (S:Sp) (B F k:Nat):Prop where
 yes:∀j,j<k->fitS S j=true
 sl:Sl8 wr B S
 fd:Fds wr F B
 bel:Below w.heap.size w wr
theorem Chk.next {w wr:World} {S:Sp} {B F k:Nat} (h:Chk w wr S B F k) (hf:fitS S k=true) (n:Nat):Chk w (wr.drewN n) S B F (k+1) where
 yes:=fun j hj=>by
  by_cases e:j=k
  ·rw [e];exact hf
  ·exact h.yes j (by omega)
 sl:=h.sl.same rfl
 fd:=h.fd.same rfl
 bel:=Below.drewN h.bel n
theorem Chk.alloc {w wr:World} {S:Sp} {B F k:Nat} (h:Chk w wr S B F k) (o:Obj):Chk w (wr.alloc o) S B F k where
 yes:=h.yes
 sl:=h.sl.below ((Below.refl _ _).alloc (jB _) _)
 fd:=h.fd.below ((Below.refl _ _).alloc (jB _) _)
 bel:=h.bel.alloc h.bel.size _
theorem Chk.p {w wr:World} {S:Sp} {B F k:Nat} (h:Chk w wr S B F k) (hk:1<k):8<=S.p/\S.p<=4096:=jZ (h.yes 1 hk)
theorem UY (S:Sp) (w:World) (E:Int) (hE:enE S=E):
  Calls prog 142 #[spV S] w fun e w'=>e=.returned (.int .i64 E)/\Below w.heap.size w w':=by
 have HN:Hid (∀k,k<8->fitS S k=false->E=1):=fun k hk h=>by rw [<-hE];unfold enE;rw [okS_no hk h];rfl
 have HY:Hid ((∀k,k<8->fitS S k=true)->E=0):=fun h=>by rw [<-hE];unfold enE;rw [okS_all.2 h];rfl
 clear hE;dsimp only [spV];go_enter func142,ntmps142
 go_wp2_with fail
 refine (ZL _ _).mono ?_;rintro e w1 ⟨rfl,hfd,hb,-⟩
 have HC:Hid (∃F,F=w.heap.size+1+1/\Chk w w1 S (w.heap.size+1) F 0):=by
  refine ⟨_,rfl,fun j hj=>by omega,?_,?_,?_⟩
  ·have:=(JK (w.alloc (.cells #[.int .i64 S.g,.int .i64 S.p,.int .i64 S.r,.int .i64 S.h,.int .i64 S.b,.int .i64 S.l,.int .i64 S.s,.int .i64 S.f] 29)) S 168).below hb
   simpa using this
  ·simpa using hfd
  ·exact (((Below.refl _ w).alloc (jB _) _).alloc (by simp) _).trans (hb.mono (by simp;omega))
 clear hb hfd;obtain ⟨F,hF,hC⟩:=HC.out;clear HC;have HC:Hid (Chk w w1 S (w.heap.size+1) F 0):=hC;clear hC;go_wp2_with fail
 rw [<-hF];clear hF;go_loopw [12] (fun i wr=>∃k:Nat,k<=8/\i=.int .i64 k/\Chk w wr S (w.heap.size+1) F k) (fun i _=>8-(intOf i).toNat)
 case atStart=>exact ⟨0,jT _,rfl,HC.out⟩
 case round=>
  obtain ⟨k,hk,rfl,hch⟩:=hrel;clear HC;by_cases hlt:k<8
  ·obtain ⟨c0,c1,c2⟩:=hch.fd k hlt;obtain ⟨fk,hfk⟩:∃fk,ff k=fk:=⟨_,rfl⟩
   have hfs:fk=214\/fk=215\/fk=216\/fk=217\/fk=218\/fk=219\/fk=220\/fk=221:=by
    rw [<-hfk];rcases eight hlt with rfl|rfl|rfl|rfl|rfl|rfl|rfl|rfl<;>simp [ff]
   have C:∀(o:Obj),Calls prog fk #[.pointer (some ⟨w.heap.size+1,0,none⟩)] (wr.alloc o) fun e w'=>e=.returned (.bool (fitS S k))/\∃n,w'=(wr.alloc o).drewN n:=fun o=>by
    rw [<-hfk];exact fit_any _ S _ (hch.sl.below ((Below.refl _ _).alloc (jB _) _)) hlt hch.p
   rw [hfk] at c2;obtain ⟨q,hq⟩:∃q,wdS k=q:=⟨_,rfl⟩;rw [hq] at c0;have HCH:Hid (Chk w wr S (w.heap.size+1) F k):=hch;have HCC:Hid _:=C;clear hch C hfk hq;cases hv:fitS S k
   ·have hE:=HN.out k hlt hv;rw [hv] at HCC;clear HN HY;subst hE;rcases hfs with rfl|rfl|rfl|rfl|rfl|rfl|rfl|rfl
    all_goals
     go_wp2_with fail
     refine (HCC.out _).mono ?_;rintro e w2 ⟨rfl,n,rfl⟩;go_wp2;go_ret
     exact ⟨rfl,Below.drewN (HCH.out.bel.alloc HCH.out.bel.size _) n⟩
   ·rw [hv] at HCC;rcases hfs with rfl|rfl|rfl|rfl|rfl|rfl|rfl|rfl
    all_goals
     go_wp2_with fail
     refine (HCC.out _).mono ?_;rintro e w2 ⟨rfl,n,rfl⟩;go_wp2;go_roundw
     case rel=>exact ⟨k+1,by omega,by go_num,(HCH.out.alloc _).next hv n⟩
     case measure=>simp [intOf];omega
  ·have hk8:k=8:=by omega
   subst hk8;have hE:=HY.out hch.yes;clear HN HY;subst hE;have HB:Hid (Below w.heap.size w wr):=hch.bel;clear hch;go_wp2;go_ret
   exact ⟨rfl,HB.out⟩
theorem noughts_v (b off cap n:Nat) (zs:List Int) (w:World) (h:Row w (some ⟨b,off,none⟩) cap zs) (hn:zs.length=n) (V:Bool) (hV:nouB zs=V):
  Calls prog 227 #[.slice (some ⟨b,off,none⟩) n cap] w fun e w'=>e=.returned (.bool V)/\w=w':=by
 subst hn;have hm:=jP h.2.1 h.2.2.1;unfold maxLen at hm;have HCE:Hid (∀i,i<zs.length->w.cell? ⟨b,off+i,none⟩=some (.int .u8 (zs.getD i 0))):=h.cells;have HBY:Hid (Bys zs):=h.1;have HV:Hid (nouB zs=V):=hV;clear hV h;go_enter func227,ntmps227
 go_wp2_with fail
 go_loop [7] (fun i=>∃k:Nat,k<=zs.length/\i=.int .i64 k/\Hid (∀j,j<k->zs.getD j 0=0)) (fun i=>zs.length-(intOf i).toNat)
 case atStart=>exact ⟨0,jT _,rfl,fun j hj=>by omega⟩
 case round=>
  obtain ⟨k,hk,rfl,HK⟩:=hrel;by_cases hlt:k<zs.length
  ·have hc:=HCE.out k hlt;obtain ⟨x,hx⟩:∃x,zs.getD k 0=x:=⟨_,rfl⟩;rw [hx] at hc;by_cases h0:x=0
   ·subst h0;have HX:Hid (zs.getD k 0=0):=hx;clear hx;go_wp2;go_round
    case rel=>exact ⟨k+1,by omega,by go_num,fun j hj=>by
     by_cases e:j=k
     ·rw [e];exact HX.out
     ·exact HK.out j (by omega)⟩
    case measure=>simp [intOf];omega
   ·have e:V=false:=by rw [<-HV.out];exact US hlt (by rw [hx];exact h0)
    have h0b:(x !=0)=true:=by simpa using h0
    subst e;clear hx h0;go_wp2;go_ret
    exact ⟨rfl,rfl⟩
  ·have e:V=true:=by rw [<-HV.out];exact nouB_iff.2 fun j hj=>HK.out j (by omega)
   subst e;go_wp2;go_ret
   exact ⟨rfl,rfl⟩
end Go.Proofs.YtaijfhadecennaaGreat.Oct
