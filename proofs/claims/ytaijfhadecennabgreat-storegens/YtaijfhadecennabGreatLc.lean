/- Part of a proof. -/
import Derived.Test.YtaijfhadecennabGreatSg
import Derived.LoopN
import Derived.Laws.EntriesVeiled
open Go.Proofs.Tryz
set_option maxHeartbeats 1000000
namespace Go.Proofs.YtaijfhadecennabGreat.Oct.Sps
open Go.RowKit
theorem ones_any (c:Int) (w:World) (h0:0<=c) (h1:c<=255):
  Calls prog 75 #[.int .u8 c] w fun e w'=>e=.returned (.int .i64 (Lib.onesCount c.toNat))/\w=w':=by
 go_enter func75,ntmps75
 go_wp2;go_ret
 refine ⟨?_,rfl⟩;have e:wrap64 (Lib.pop8 c)=(Lib.onesCount c.toNat:Int):=by unfold wrap64;exact Lib.pop8_int c h0 h1
 rw [<-e];simp
theorem ntz_any (c:Int) (w:World) (h0:0<=c) (h1:c<=255):
  Calls prog 225 #[.int .u8 c] w fun e w'=>e=.returned (.int .i64 (Lib.trailingZeros8 c.toNat))/\w=w':=by
 go_enter func225,ntmps225
 go_wp2;go_ret
 refine ⟨?_,rfl⟩;have e:wrap64 (Lib.ntz8 c)=(Lib.trailingZeros8 c.toNat:Int):=by unfold wrap64;exact Lib.ntz8_int c h0 h1
 rw [<-e];simp
section
variable {w w':World} {s a ca b cb:Nat} {F:Nat->Prop} {S:List Int}
theorem kM (h:SpX w s a ca b cb F S) (j:Nat) (hj:j<(S.length+7)/8):Calls prog 76 #[.pointer (some ⟨s,0,none⟩),.int .i64 j] w fun e w'=>e=.returned (.int .u8 (tkY S j))/\Below w.heap.size w w':=by
 obtain ⟨-,c1,c2⟩:=h.at;have hhi:=h.ok.hi;have ra:=h.rowA.cells j (by rw [zB];exact hj);have rb:=h.rowB.cells j (by rw [bitL_len];exact hj);rw [xE] at ra rb;have hor:=tk_or h.ok hj;obtain ⟨x,hx⟩:∃x,(lasL S).getD j 0=x:=⟨_,rfl⟩;obtain ⟨y,hy⟩:∃y,(bitL S).getD j 0=y:=⟨_,rfl⟩;have hxb:=(VG S).at j;have hyb:=(bitL_bys S).at j;obtain ⟨n,hn⟩:∃n,(S.length+7)/8=n:=⟨_,rfl⟩;have hn1:n<=1000000:=by omega
 rw [hx] at ra hor hxb;rw [hy] at rb hor hyb;rw [hn] at c1 c2 hj;obtain ⟨-,-,k1,k2,-⟩:=h.last.cur;obtain ⟨-,-,k3,k4,-⟩:=h.next.cur;rw [hn] at k1 k3;unfold maxLen at k2 k4;clear h hx hy hn hhi;go_enter func76,ntmps76
 go_wp2;go_quiet (fail)
 go_wp2;go_ret
 exact ⟨rfl,⟨rfl,rfl,rfl,jB _,fun _ _=>rfl⟩⟩
end
end Go.Proofs.YtaijfhadecennabGreat.Oct.Sps
namespace Go.Proofs.YtaijfhadecennabGreat.Oct.Sps
open Go.RowKit
theorem bitR_las {S:List Int} {k:Nat} (hk:k<S.length):bitR (lasL S) k=laB (S.getD k 0):=XH (by omega)
theorem bitR_bit {S:List Int} {k:Nat} (hk:k<S.length):bitR (bitL S) k=usB (S.getD k 0):=XH (by omega)
section
variable {w w':World} {s a ca b cb:Nat} {F:Nat->Prop} {S:List Int}
theorem SpX.hasA (h:SpX w s a ca b cb F S) (k:Nat) (hk:k<S.length):Calls prog 107 #[.slice (some ⟨a,0,none⟩) ((S.length+7)/8) ca,.int .i64 k] w fun e w'=>e=.returned (.bool (laB (S.getD k 0)))/\w=w':=by
 have hA:=YQ _ ca (lasL S) k w h.rowA (by rw [zB];have:=h.ok.hi;omega) (by rw [zB];omega);rw [zB,bitR_las hk] at hA;exact hA
theorem SpX.hasB (h:SpX w s a ca b cb F S) (k:Nat) (hk:k<S.length):Calls prog 107 #[.slice (some ⟨b,0,none⟩) ((S.length+7)/8) cb,.int .i64 k] w fun e w'=>e=.returned (.bool (usB (S.getD k 0)))/\w=w':=by
 have hB:=YQ _ cb (bitL S) k w h.rowB (by rw [bitL_len];have:=h.ok.hi;omega) (by rw [bitL_len];omega);rw [bitL_len,bitR_bit hk] at hB;exact hB
theorem la03:laB 0=false/\laB 1=true/\laB 2=false/\laB 3=true:=⟨rfl,rfl,rfl,rfl⟩
theorem us03:usB 0=false/\usB 1=true/\usB 2=true/\usB 3=false:=⟨rfl,rfl,rfl,rfl⟩
theorem XD (h:SpX w s a ca b cb F S) (k:Nat) (hk:k<S.length):Calls prog 209 #[.pointer (some ⟨s,0,none⟩),.int .i64 k] w fun e w'=>e=.returned (.bool (S.getD k 0==0))/\w=w':=by
 obtain ⟨-,c1,c2⟩:=h.at;have hA:=h.hasA k hk;have hB:=h.hasB k hk;have hv3:=h.ok.at k;obtain ⟨v,hv⟩:∃v,S.getD k 0=v:=⟨_,rfl⟩;rw [hv] at hA hB hv3 ⊢;obtain ⟨n,hn⟩:∃n,(S.length+7)/8=n:=⟨_,rfl⟩;rw [hn] at c1 c2 hA hB;have hc:v=0\/v=1\/v=2\/v=3:=by omega
 clear h hv hk hv3 hn;rcases hc with rfl|rfl|rfl|rfl
 all_goals (
  simp only [la03.1,la03.2.1,la03.2.2.1,la03.2.2.2] at hA;simp only [us03.1,us03.2.1,us03.2.2.1,us03.2.2.2] at hB;go_enter func209,ntmps209
  go_wp2_with (go_at_call 107;first|(refine hA.mono ?_;clear hA;rintro e w' ⟨rfl,rfl⟩)|(refine hB.mono ?_;rintro e w' ⟨rfl,rfl⟩))
  go_ret
  exact ⟨rfl,rfl⟩)
theorem YT (h:SpX w s a ca b cb F S) (k:Nat) (hk:k<S.length):Calls prog 210 #[.pointer (some ⟨s,0,none⟩),.int .i64 k] w fun e w'=>e=.returned (.bool (S.getD k 0==1))/\w=w':=by
 obtain ⟨-,c1,c2⟩:=h.at;have hA:=h.hasA k hk;have hB:=h.hasB k hk;have hv3:=h.ok.at k;obtain ⟨v,hv⟩:∃v,S.getD k 0=v:=⟨_,rfl⟩;rw [hv] at hA hB hv3 ⊢;obtain ⟨n,hn⟩:∃n,(S.length+7)/8=n:=⟨_,rfl⟩;rw [hn] at c1 c2 hA hB;have hc:v=0\/v=1\/v=2\/v=3:=by omega
 clear h hv hk hv3 hn;rcases hc with rfl|rfl|rfl|rfl
 all_goals (
  simp only [la03.1,la03.2.1,la03.2.2.1,la03.2.2.2] at hA;simp only [us03.1,us03.2.1,us03.2.2.1,us03.2.2.2] at hB;go_enter func210,ntmps210
  go_wp2_with (go_at_call 107;first|(refine hA.mono ?_;clear hA;rintro e w' ⟨rfl,rfl⟩)|(refine hB.mono ?_;rintro e w' ⟨rfl,rfl⟩))
  go_ret
  exact ⟨rfl,rfl⟩)
theorem KJ (h:SpX w s a ca b cb F S) (k:Nat) (hk:k<S.length):Calls prog 211 #[.pointer (some ⟨s,0,none⟩),.int .i64 k] w fun e w'=>e=.returned (.bool (S.getD k 0==2))/\w=w':=by
 obtain ⟨-,c1,c2⟩:=h.at;have hA:=h.hasA k hk;have hB:=h.hasB k hk;have hv3:=h.ok.at k;obtain ⟨v,hv⟩:∃v,S.getD k 0=v:=⟨_,rfl⟩;rw [hv] at hA hB hv3 ⊢;obtain ⟨n,hn⟩:∃n,(S.length+7)/8=n:=⟨_,rfl⟩;rw [hn] at c1 c2 hA hB;have hc:v=0\/v=1\/v=2\/v=3:=by omega
 clear h hv hk hv3 hn;rcases hc with rfl|rfl|rfl|rfl
 all_goals (
  simp only [la03.1,la03.2.1,la03.2.2.1,la03.2.2.2] at hA;simp only [us03.1,us03.2.1,us03.2.2.1,us03.2.2.2] at hB;go_enter func211,ntmps211
  go_wp2_with (go_at_call 107;first|(refine hA.mono ?_;clear hA;rintro e w' ⟨rfl,rfl⟩)|(refine hB.mono ?_;rintro e w' ⟨rfl,rfl⟩))
  go_ret
  exact ⟨rfl,rfl⟩)
theorem kE (h:SpX w s a ca b cb F S) (k:Nat) (hk:k<S.length):Calls prog 212 #[.pointer (some ⟨s,0,none⟩),.int .i64 k] w fun e w'=>e=.returned (.bool (S.getD k 0==3))/\w=w':=by
 obtain ⟨-,c1,c2⟩:=h.at;have hA:=h.hasA k hk;have hB:=h.hasB k hk;have hv3:=h.ok.at k;obtain ⟨v,hv⟩:∃v,S.getD k 0=v:=⟨_,rfl⟩;rw [hv] at hA hB hv3 ⊢;obtain ⟨n,hn⟩:∃n,(S.length+7)/8=n:=⟨_,rfl⟩;rw [hn] at c1 c2 hA hB;have hc:v=0\/v=1\/v=2\/v=3:=by omega
 clear h hv hk hv3 hn;rcases hc with rfl|rfl|rfl|rfl
 all_goals (
  simp only [la03.1,la03.2.1,la03.2.2.1,la03.2.2.2] at hA;simp only [us03.1,us03.2.1,us03.2.2.1,us03.2.2.2] at hB;go_enter func212,ntmps212
  go_wp2_with (go_at_call 107;first|(refine hA.mono ?_;clear hA;rintro e w' ⟨rfl,rfl⟩)|(refine hB.mono ?_;rintro e w' ⟨rfl,rfl⟩))
  go_ret
  exact ⟨rfl,rfl⟩)
def teV (s:Nat):Value:=.agg #[.func (.func 209) #[.pointer (some ⟨s,0,none⟩)] #[],.func (.func 210) #[.pointer (some ⟨s,0,none⟩)] #[],.func (.func 211) #[.pointer (some ⟨s,0,none⟩)] #[],.func (.func 212) #[.pointer (some ⟨s,0,none⟩)] #[]]
theorem te0 (s:Nat) (w:World):(Instr.index 253 (teV s) (.int .i64 0)).run prog w=.ok (.func (.func 209) #[.pointer (some ⟨s,0,none⟩)] #[]) w:=by kernel_rfl
theorem te1 (s:Nat) (w:World):(Instr.index 253 (teV s) (.int .i64 1)).run prog w=.ok (.func (.func 210) #[.pointer (some ⟨s,0,none⟩)] #[]) w:=by kernel_rfl
theorem te2 (s:Nat) (w:World):(Instr.index 253 (teV s) (.int .i64 2)).run prog w=.ok (.func (.func 211) #[.pointer (some ⟨s,0,none⟩)] #[]) w:=by kernel_rfl
theorem te3 (s:Nat) (w:World):(Instr.index 253 (teV s) (.int .i64 3)).run prog w=.ok (.func (.func 212) #[.pointer (some ⟨s,0,none⟩)] #[]) w:=by kernel_rfl
def stN (S:List Int) (p:Int):Int:=if inB S p then S.getD p.toNat 0 else 4
theorem stN_in {S:List Int} {k:Nat} (hk:k<S.length):stN S k=S.getD k 0:=by
 unfold stN inB;rw [jF (show (0:Int)<=k by omega),jF (show (k:Int)<S.length by omega)];rfl
theorem state_no (h:SpX w s a ca b cb F S) (p:Int) (hp:inB S p=false):Calls prog 180 #[.pointer (some ⟨s,0,none⟩),.int .i64 p] w fun e w'=>e=.returned (.int .i64 4)/\Below w.heap.size w w':=by
 have hm:=made_any h;have hh:=has_any h p;rw [hp] at hh;clear h hp;go_enter func180,ntmps180
 go_wp2_with (first|(go_at_call 74;refine hm.mono ?_;rintro e w' ⟨rfl,rfl⟩)|(go_at_call 179;refine hh.mono ?_;rintro e w' ⟨rfl,rfl⟩))
 go_ret
 exact ⟨rfl,Below.refl _ _⟩
theorem state_0 (h:SpX w s a ca b cb F S) (k:Nat) (hk:k<S.length) (hv:S.getD k 0=0):Calls prog 180 #[.pointer (some ⟨s,0,none⟩),.int .i64 k] w fun e w'=>e=.returned (.int .i64 0)/\Below w.heap.size w w':=by
 have hm:=made_any h;have hh:=has_any h k;rw [show inB S k=true by unfold inB;rw [jF (show (0:Int)<=k by omega),jF (show (k:Int)<S.length by omega)];rfl] at hh;have HS:Hid (∀w',Below w.heap.size w w'->SpX w' s a ca b cb F S):=fun w' hb=>h.below hb
 have H0:Hid (∀w',Below w.heap.size w w'->Calls prog 209 #[.pointer (some ⟨s,0,none⟩),.int .i64 k] w' fun e w''=>e=.returned (.bool true)/\w'=w''):=fun w' hb=>by
  have:=XD (HS.out w' hb) k hk;rw [hv] at this;exact this
 clear h hk hv HS;go_enter func180,ntmps180
 go_wp2_with (first|(go_at_call 74;refine hm.mono ?_;rintro e w' ⟨rfl,rfl⟩)|(go_at_call 179;refine hh.mono ?_;rintro e w' ⟨rfl,rfl⟩))
 have e0:=te0 s;simp only [teV] at e0;refine wp_loop_rounds 1 ?_;rw [rounds_succ];go_wp2_with (first|(go_at_call 209;refine (H0.out _ ((Below.refl _ _).alloc (jB _) _)).mono ?_;rintro e w' ⟨rfl,rfl⟩));go_ret
 exact ⟨rfl,((Below.refl _ _).alloc (jB _) _)⟩
theorem state_1 (h:SpX w s a ca b cb F S) (k:Nat) (hk:k<S.length) (hv:S.getD k 0=1):Calls prog 180 #[.pointer (some ⟨s,0,none⟩),.int .i64 k] w fun e w'=>e=.returned (.int .i64 1)/\Below w.heap.size w w':=by
 have hm:=made_any h;have hh:=has_any h k;rw [show inB S k=true by unfold inB;rw [jF (show (0:Int)<=k by omega),jF (show (k:Int)<S.length by omega)];rfl] at hh;have HS:Hid (∀w',Below w.heap.size w w'->SpX w' s a ca b cb F S):=fun w' hb=>h.below hb
 have H0:Hid (∀w',Below w.heap.size w w'->Calls prog 209 #[.pointer (some ⟨s,0,none⟩),.int .i64 k] w' fun e w''=>e=.returned (.bool false)/\w'=w''):=fun w' hb=>by
  have:=XD (HS.out w' hb) k hk;rw [hv] at this;exact this
 have H1:Hid (∀w',Below w.heap.size w w'->Calls prog 210 #[.pointer (some ⟨s,0,none⟩),.int .i64 k] w' fun e w''=>e=.returned (.bool true)/\w'=w''):=fun w' hb=>by
  have:=YT (HS.out w' hb) k hk;rw [hv] at this;exact this
 clear h hk hv HS;go_enter func180,ntmps180
 go_wp2_with (first|(go_at_call 74;refine hm.mono ?_;rintro e w' ⟨rfl,rfl⟩)|(go_at_call 179;refine hh.mono ?_;rintro e w' ⟨rfl,rfl⟩))
 have e0:=te0 s;have e1:=te1 s;simp only [teV] at e0 e1;refine wp_loop_rounds 2 ?_
 iterate 2 (rw [rounds_succ];go_wp2_with (first|(go_at_call 209;refine (H0.out _ ((Below.refl _ _).alloc (jB _) _)).mono ?_;rintro e w' ⟨rfl,rfl⟩)|(go_at_call 210;refine (H1.out _ ((Below.refl _ _).alloc (jB _) _)).mono ?_;rintro e w' ⟨rfl,rfl⟩)))
 go_ret
 exact ⟨rfl,((Below.refl _ _).alloc (jB _) _)⟩
theorem state_2 (h:SpX w s a ca b cb F S) (k:Nat) (hk:k<S.length) (hv:S.getD k 0=2):Calls prog 180 #[.pointer (some ⟨s,0,none⟩),.int .i64 k] w fun e w'=>e=.returned (.int .i64 2)/\Below w.heap.size w w':=by
 have hm:=made_any h;have hh:=has_any h k;rw [show inB S k=true by unfold inB;rw [jF (show (0:Int)<=k by omega),jF (show (k:Int)<S.length by omega)];rfl] at hh;have HS:Hid (∀w',Below w.heap.size w w'->SpX w' s a ca b cb F S):=fun w' hb=>h.below hb
 have H0:Hid (∀w',Below w.heap.size w w'->Calls prog 209 #[.pointer (some ⟨s,0,none⟩),.int .i64 k] w' fun e w''=>e=.returned (.bool false)/\w'=w''):=fun w' hb=>by
  have:=XD (HS.out w' hb) k hk;rw [hv] at this;exact this
 have H1:Hid (∀w',Below w.heap.size w w'->Calls prog 210 #[.pointer (some ⟨s,0,none⟩),.int .i64 k] w' fun e w''=>e=.returned (.bool false)/\w'=w''):=fun w' hb=>by
  have:=YT (HS.out w' hb) k hk;rw [hv] at this;exact this
 have H2:Hid (∀w',Below w.heap.size w w'->Calls prog 211 #[.pointer (some ⟨s,0,none⟩),.int .i64 k] w' fun e w''=>e=.returned (.bool true)/\w'=w''):=fun w' hb=>by
  have:=KJ (HS.out w' hb) k hk;rw [hv] at this;exact this
 clear h hk hv HS;go_enter func180,ntmps180
 go_wp2_with (first|(go_at_call 74;refine hm.mono ?_;rintro e w' ⟨rfl,rfl⟩)|(go_at_call 179;refine hh.mono ?_;rintro e w' ⟨rfl,rfl⟩))
 have e0:=te0 s;have e1:=te1 s;have e2:=te2 s;simp only [teV] at e0 e1 e2;refine wp_loop_rounds 3 ?_
 iterate 3 (rw [rounds_succ];go_wp2_with (first|(go_at_call 209;refine (H0.out _ ((Below.refl _ _).alloc (jB _) _)).mono ?_;rintro e w' ⟨rfl,rfl⟩)|(go_at_call 210;refine (H1.out _ ((Below.refl _ _).alloc (jB _) _)).mono ?_;rintro e w' ⟨rfl,rfl⟩)|(go_at_call 211;refine (H2.out _ ((Below.refl _ _).alloc (jB _) _)).mono ?_;rintro e w' ⟨rfl,rfl⟩)))
 go_ret
 exact ⟨rfl,((Below.refl _ _).alloc (jB _) _)⟩
theorem state_3 (h:SpX w s a ca b cb F S) (k:Nat) (hk:k<S.length) (hv:S.getD k 0=3):Calls prog 180 #[.pointer (some ⟨s,0,none⟩),.int .i64 k] w fun e w'=>e=.returned (.int .i64 3)/\Below w.heap.size w w':=by
 have hm:=made_any h;have hh:=has_any h k;rw [show inB S k=true by unfold inB;rw [jF (show (0:Int)<=k by omega),jF (show (k:Int)<S.length by omega)];rfl] at hh;have HS:Hid (∀w',Below w.heap.size w w'->SpX w' s a ca b cb F S):=fun w' hb=>h.below hb
 have H0:Hid (∀w',Below w.heap.size w w'->Calls prog 209 #[.pointer (some ⟨s,0,none⟩),.int .i64 k] w' fun e w''=>e=.returned (.bool false)/\w'=w''):=fun w' hb=>by
  have:=XD (HS.out w' hb) k hk;rw [hv] at this;exact this
 have H1:Hid (∀w',Below w.heap.size w w'->Calls prog 210 #[.pointer (some ⟨s,0,none⟩),.int .i64 k] w' fun e w''=>e=.returned (.bool false)/\w'=w''):=fun w' hb=>by
  have:=YT (HS.out w' hb) k hk;rw [hv] at this;exact this
 have H2:Hid (∀w',Below w.heap.size w w'->Calls prog 211 #[.pointer (some ⟨s,0,none⟩),.int .i64 k] w' fun e w''=>e=.returned (.bool false)/\w'=w''):=fun w' hb=>by
  have:=KJ (HS.out w' hb) k hk;rw [hv] at this;exact this
 have H3:Hid (∀w',Below w.heap.size w w'->Calls prog 212 #[.pointer (some ⟨s,0,none⟩),.int .i64 k] w' fun e w''=>e=.returned (.bool true)/\w'=w''):=fun w' hb=>by
  have:=kE (HS.out w' hb) k hk;rw [hv] at this;exact this
 clear h hk hv HS;go_enter func180,ntmps180
 go_wp2_with (first|(go_at_call 74;refine hm.mono ?_;rintro e w' ⟨rfl,rfl⟩)|(go_at_call 179;refine hh.mono ?_;rintro e w' ⟨rfl,rfl⟩))
 have e0:=te0 s;have e1:=te1 s;have e2:=te2 s;have e3:=te3 s;simp only [teV] at e0 e1 e2 e3;refine wp_loop_rounds 4 ?_
 iterate 4 (rw [rounds_succ];go_wp2_with (first|(go_at_call 209;refine (H0.out _ ((Below.refl _ _).alloc (jB _) _)).mono ?_;rintro e w' ⟨rfl,rfl⟩)|(go_at_call 210;refine (H1.out _ ((Below.refl _ _).alloc (jB _) _)).mono ?_;rintro e w' ⟨rfl,rfl⟩)|(go_at_call 211;refine (H2.out _ ((Below.refl _ _).alloc (jB _) _)).mono ?_;rintro e w' ⟨rfl,rfl⟩)|(go_at_call 212;refine (H3.out _ ((Below.refl _ _).alloc (jB _) _)).mono ?_;rintro e w' ⟨rfl,rfl⟩)))
 go_ret
 exact ⟨rfl,((Below.refl _ _).alloc (jB _) _)⟩
end
end Go.Proofs.YtaijfhadecennabGreat.Oct.Sps
namespace Go.Proofs.YtaijfhadecennabGreat.Oct.Sps
open Go.RowKit
section
variable {w w':World} {s a ca b cb:Nat} {F:Nat->Prop} {S:List Int}
theorem state_any (h:SpX w s a ca b cb F S) (p:Int):Calls prog 180 #[.pointer (some ⟨s,0,none⟩),.int .i64 p] w fun e w'=>e=.returned (.int .i64 (stN S p))/\Below w.heap.size w w':=by
 by_cases hp:inB S p=true
 ·obtain ⟨h0,h1⟩:0<=p/\p<(S.length:Int):=by unfold inB at hp;simpa using hp
  obtain ⟨k,rfl⟩:=qB h0;have hk:k<S.length:=by omega
  have h3:=h.ok.at k;rw [stN_in hk];have hc:S.getD k 0=0\/S.getD k 0=1\/S.getD k 0=2\/S.getD k 0=3:=by omega
  rcases hc with hc|hc|hc|hc
  ·rw [hc];exact state_0 h k hk hc
  ·rw [hc];exact state_1 h k hk hc
  ·rw [hc];exact state_2 h k hk hc
  ·rw [hc];exact state_3 h k hk hc
 ·have hp':inB S p=false:=by simpa using hp
  have e:stN S p=4:=by unfold stN;rw [if_neg hp]
  rw [e];exact state_no h p hp'
theorem SpX.drop (h:SpX w s a ca b cb F S) {k:Nat} (hk:k<S.length) {z:Int} (hz:0<=z/\z<=3) (hu:usB z=false) (hl:laB z=laB (S.getD k 0)) (hn:Own 0 w' (.slice (some ⟨b,0,none⟩) ((S.length+7)/8) cb) ((bitL S).set (k/8) (bits .andNot .u8 ((bitL S).getD (k/8) 0) (2^(k%8)%256)))) (hc:Ch w.heap.size (fun x=>x=b) w w'):SpX w' s a ca b cb F (S.set k z):=
 h.next' hc.size (fun g hg hb=>hc.block g (h.lt g hg) hb) (by rw [qC]) (h.ok.set k hz.1 hz.2) (GI hk hl) (by rw [bitL_drop hk hu];exact hn)
theorem SpX.take (h:SpX w s a ca b cb F S) {k:Nat} (hk:k<S.length) (h0:S.getD k 0=0) (hn:Own 0 w' (.slice (some ⟨b,0,none⟩) ((S.length+7)/8) cb) ((bitL S).set (k/8) (bits .or .u8 ((bitL S).getD (k/8) 0) (2^(k%8)%256)))) (hc:Ch w.heap.size (fun x=>x=b) w w'):SpX w' s a ca b cb F (S.set k 2):=
 h.next' hc.size (fun g hg hb=>hc.block g (h.lt g hg) hb) (by rw [qC]) (h.ok.set k (by omega) (by omega)) (GI hk (by rw [h0];rfl)) (by rw [bitL_take hk];exact hn)
theorem vH {x:Nat} (hx:F x) (hc:Ch w.heap.size (fun k=>k=x) w w'):Step F F w w':=Step.of (hc.mono (jB _) (fun _ _ e=>e▸hx))
end
end Go.Proofs.YtaijfhadecennabGreat.Oct.Sps
namespace Go.Proofs.YtaijfhadecennabGreat.Oct.Sps
open Go.RowKit
theorem xor_at:∀z:Fin 256,bits .xor .u8 255 (z.val:Int)=255-(z.val:Int)/\bits .xor .u8 (z.val:Int) 255=255-(z.val:Int):=by decide+kernel
theorem xor255 {z:Int} (h0:0<=z) (h1:z<=255):bits .xor .u8 255 z=255-z:=by
 obtain ⟨n,rfl⟩:=qB h0;exact (xor_at ⟨n,by omega⟩).1
theorem xor255' {z:Int} (h0:0<=z) (h1:z<=255):bits .xor .u8 z 255=255-z:=by
 obtain ⟨n,rfl⟩:=qB h0;exact (xor_at ⟨n,by omega⟩).2
section
variable {w w':World} {s a ca b cb:Nat} {F:Nat->Prop} {S:List Int}
theorem give_any (h:Spa w s F S) (p:Int):Calls prog 140 #[.pointer (some ⟨s,0,none⟩),.int .i64 p] w fun e w'=>e=.returned (.int .i64 (gvE S p))/\∃F',Spa w' s F' (gvL S p)/\Step F F' w w':=by
 obtain ⟨a,ca,b,cb,h⟩:=h;have hm:=made_any h;have hh:=has_any h p;have hs:=state_any h p;by_cases hb:gvB S p=true
 ·obtain ⟨b1,b2⟩:2<=p/\p<(S.length:Int):=by unfold gvB at hb;simpa using hb
  obtain ⟨k,rfl⟩:=qB (show 0<=p by omega);have hk:k<S.length:=by omega
  have hin:inB S k=true:=by unfold inB;rw [jF (show (0:Int)<=k by omega),jF b2];rfl
  rw [hin] at hh;have e2:=stN_in hk;have e3:stN S k=0\/stN S k=1\/stN S k=2\/stN S k=3:=by have:=h.ok.at k;omega
  rcases e3 with e3|e3|e3|e3
  ·rw [e3] at hs e2
   have HE:Hid (gvE S k=10/\gvL S k=S):=by
    show _/\_;unfold gvE gvL;rw [if_pos hb,if_pos hb,jS,<-e2,if_neg (by omega),if_neg (by omega),if_neg (by omega),if_neg (by omega)];exact ⟨rfl,rfl⟩
   have HX:Hid (SpX w s a ca b cb F S):=h;clear h hb hin e2 e3;go_enter func140,ntmps140
   go_wp2_with (first|(go_at_call 74;refine hm.mono ?_;rintro e w' ⟨rfl,rfl⟩)|(go_at_call 179;refine hh.mono ?_;rintro e w' ⟨rfl,rfl⟩)|(go_at_call 180;refine hs.mono ?_;rintro e w1 ⟨rfl,hb1⟩))
   go_ret
   rw [HE.out.1,HE.out.2];exact ⟨rfl,F,⟨_,_,_,_,HX.out.below hb1⟩,Step.ofB hb1⟩
  ·rw [e3] at hs e2
   have HE:Hid (gvE S k=0/\gvL S k=S.set k 3):=by
    show _/\_;unfold gvE gvL;rw [if_pos hb,if_pos hb,jS,<-e2];exact ⟨rfl,rfl⟩
   have HX:Hid (SpX w s a ca b cb F S):=h;have HV:Hid (S.getD k 0=1):=e2.symm;obtain ⟨n,hn⟩:∃n,(S.length+7)/8=n:=⟨_,rfl⟩;have HN:Hid ((S.length+7)/8=n):=hn;clear h hb hin e2 e3 hn;go_enter func140,ntmps140
   go_wp2_with (first|(go_at_call 74;refine hm.mono ?_;rintro e w' ⟨rfl,rfl⟩)|(go_at_call 179;refine hh.mono ?_;rintro e w' ⟨rfl,rfl⟩)|(go_at_call 180;refine hs.mono ?_;rintro e w1 ⟨rfl,hb1⟩;have HX1:Hid (SpX w1 s a ca b cb F S):=HX.out.below hb1;have HB1:Hid (Below w.heap.size w w1):=hb1;obtain ⟨-,-,c2⟩:=HX1.out.at;rw [HN.out] at c2;clear hb1)|(go_at_call 181;have hd:=uV b ((S.length+7)/8) cb (bitL S) k w1 HX1.out.next (bitL_bys S) (by rw [bitL_len];have:=HX1.out.ok.hi;omega) (by rw [bitL_len];omega);rw [HN.out] at hd;refine hd.mono ?_;clear hd;rintro e w2 ⟨rfl,h2,h3⟩;rw [<-HN.out] at h2;have H2:Hid _:=h2;have H3:Hid _:=h3;clear h2 h3))
   go_ret
   rw [HE.out.1,HE.out.2];exact ⟨rfl,F,⟨_,_,_,_,HX1.out.drop hk (by omega) rfl (by rw [HV.out];rfl) H2.out H3.out⟩,(Step.ofB HB1.out).trans (vH HX1.out.fb H3.out)⟩
  ·rw [e3] at hs e2
   have HE:Hid (gvE S k=0/\gvL S k=S.set k 0):=by
    show _/\_;unfold gvE gvL;rw [if_pos hb,if_pos hb,jS,<-e2];exact ⟨rfl,rfl⟩
   have HX:Hid (SpX w s a ca b cb F S):=h;have HV:Hid (S.getD k 0=2):=e2.symm;obtain ⟨n,hn⟩:∃n,(S.length+7)/8=n:=⟨_,rfl⟩;have HN:Hid ((S.length+7)/8=n):=hn;clear h hb hin e2 e3 hn;go_enter func140,ntmps140
   go_wp2_with (first|(go_at_call 74;refine hm.mono ?_;rintro e w' ⟨rfl,rfl⟩)|(go_at_call 179;refine hh.mono ?_;rintro e w' ⟨rfl,rfl⟩)|(go_at_call 180;refine hs.mono ?_;rintro e w1 ⟨rfl,hb1⟩;have HX1:Hid (SpX w1 s a ca b cb F S):=HX.out.below hb1;have HB1:Hid (Below w.heap.size w w1):=hb1;obtain ⟨-,-,c2⟩:=HX1.out.at;rw [HN.out] at c2;clear hb1)|(go_at_call 181;have hd:=uV b ((S.length+7)/8) cb (bitL S) k w1 HX1.out.next (bitL_bys S) (by rw [bitL_len];have:=HX1.out.ok.hi;omega) (by rw [bitL_len];omega);rw [HN.out] at hd;refine hd.mono ?_;clear hd;rintro e w2 ⟨rfl,h2,h3⟩;rw [<-HN.out] at h2;have H2:Hid _:=h2;have H3:Hid _:=h3;clear h2 h3))
   go_ret
   rw [HE.out.1,HE.out.2];exact ⟨rfl,F,⟨_,_,_,_,HX1.out.drop hk (by omega) rfl (by rw [HV.out];rfl) H2.out H3.out⟩,(Step.ofB HB1.out).trans (vH HX1.out.fb H3.out)⟩
  ·rw [e3] at hs e2
   have HE:Hid (gvE S k=10/\gvL S k=S):=by
    show _/\_;unfold gvE gvL;rw [if_pos hb,if_pos hb,jS,<-e2,if_neg (by omega),if_neg (by omega),if_neg (by omega),if_neg (by omega)];exact ⟨rfl,rfl⟩
   have HX:Hid (SpX w s a ca b cb F S):=h;clear h hb hin e2 e3;go_enter func140,ntmps140
   go_wp2_with (first|(go_at_call 74;refine hm.mono ?_;rintro e w' ⟨rfl,rfl⟩)|(go_at_call 179;refine hh.mono ?_;rintro e w' ⟨rfl,rfl⟩)|(go_at_call 180;refine hs.mono ?_;rintro e w1 ⟨rfl,hb1⟩))
   go_ret
   rw [HE.out.1,HE.out.2];exact ⟨rfl,F,⟨_,_,_,_,HX.out.below hb1⟩,Step.ofB hb1⟩
 ·have HE:Hid (gvE S p=1/\gvL S p=S):=by
   show _/\_;unfold gvE gvL;rw [if_neg hb,if_neg hb];exact ⟨rfl,rfl⟩
  have HX:Hid (SpX w s a ca b cb F S):=h;by_cases b1:p<2
  ·clear h hb hs hh;go_enter func140,ntmps140
   go_wp2_with (go_at_call 74;refine hm.mono ?_;rintro e w' ⟨rfl,rfl⟩)
   go_ret
   rw [HE.out.1,HE.out.2];exact ⟨rfl,F,⟨_,_,_,_,HX.out⟩,Step.refl _ _⟩
  ·have hin:inB S p=false:=by
    unfold gvB at hb;unfold inB;rw [jF (show 2<=p by omega),yE] at hb;simp only [Bool.not_eq_true] at hb;rw [hb,Bool.and_false]
   rw [hin] at hh;clear h hb hs hin;go_enter func140,ntmps140
   go_wp2_with (first|(go_at_call 74;refine hm.mono ?_;rintro e w' ⟨rfl,rfl⟩)|(go_at_call 179;refine hh.mono ?_;rintro e w' ⟨rfl,rfl⟩))
   go_ret
   rw [HE.out.1,HE.out.2];exact ⟨rfl,F,⟨_,_,_,_,HX.out⟩,Step.refl _ _⟩
theorem least_any (h:SpX w s a ca b cb F S):Calls prog 201 #[.pointer (some ⟨s,0,none⟩)] w fun e w'=>∃m:Nat,e=.returned (.int .i64 m)/\Hid (LeS S m)/\Below w.heap.size w w':=by
 obtain ⟨c0,c1,c2⟩:=h.at;have hhi:=h.ok.hi;have HX:Hid (∀w',Below w.heap.size w w'->SpX w' s a ca b cb F S):=fun w' hb=>h.below hb
 have HOK:Hid (SpOk S):=h.ok;obtain ⟨n,hn⟩:∃n,(S.length+7)/8=n:=⟨_,rfl⟩;have HN:Hid ((S.length+7)/8=n):=hn;have hn1:n<=1000:=by omega
 have hsl:S.length<=5000:=by omega
 rw [hn] at c1 c2;clear h hn hhi;go_enter func201,ntmps201
 go_wp2;go_loopw [10] (fun i wr=>∃k:Nat,k<=n/\i=.int .i64 k/\Hid ((∀j,j<8*k->S.getD j 0≠0)/\Below w.heap.size w wr)) (fun i _=>n-(intOf i).toNat)
 case atStart=>exact ⟨0,jW _,rfl,(by show _/\_;exact ⟨fun j hj=>by omega,Below.refl _ _⟩)⟩
 case round=>
  obtain ⟨k,hk,rfl,HI⟩:=hrel;obtain ⟨d0,d1,d2⟩:=(HX.out wr HI.out.2).at;rw [HN.out] at d1 d2;by_cases hlt:k<n
  ·have ht:=kM (HX.out wr HI.out.2) k (by rw [HN.out];exact hlt);have HT:Hid (tkY S k=byB (fun b=>nzB (S.getD (8*k+b) 0))):=rfl;have hyb:=FP (fun b=>nzB (S.getD (8*k+b) 0));rw [<-HT.out] at hyb;obtain ⟨y,hy⟩:∃y,tkY S k=y:=⟨_,rfl⟩;rw [hy] at ht hyb HT;clear hy;by_cases hy:y=255
   ·have HA:Hid (∀j,j<8*(k+1)->S.getD j 0≠0):=fun j hj=>by
     by_cases e:j<8*k
     ·exact HI.out.1 j e
     ·have:=all_byB (HT.out.symm.trans hy) (j-8*k) (by omega);rw [show 8*k+(j-8*k)=j by omega] at this;exact nz_iff.1 this
    subst hy;clear HT hyb;go_wp2_with (go_at_call 76;refine ht.mono ?_;rintro e w2 ⟨rfl,hb2⟩;have HB2:Hid (Below w.heap.size w w2):=HI.out.2.trans (hb2.mono HI.out.2.size);clear hb2)
    go_roundw
    case rel=>exact ⟨k+1,by omega,by go_num,(by show _/\_;exact ⟨HA.out,HB2.out⟩)⟩
    case measure=>simp [intOf];omega
   ·obtain ⟨t,ht1,ht2,ht3,ht4⟩:=ntz_byB (u:=fun b=>nzB (S.getD (8*k+b) 0)) (by rw [<-HT.out];exact hy);rw [<-HT.out] at ht1;have HL:Hid (LeS S (8*k+t)):=LeS.found HOK.out (by rw [HN.out];exact hlt) ht2 ht3 ht4 HI.out.1;have hntz:=fun w'=>ntz_any (255-y) w' (by omega) (by omega)
    simp only [ht1] at hntz;have hx1:IntKind.u8.signed=false:=rfl;have hx2:IntKind.u8.max=255:=rfl;have hx3:bits .xor .u8 255 y=255-y:=xor255 hyb.1 hyb.2;have hx4:bits .xor .u8 y 255=255-y:=xor255' hyb.1 hyb.2;have hne:(y==255)=false:=by simpa using hy
    have ht8:t<8:=ht2;clear HT ht1 ht2 ht3 ht4 hy;go_wp2_with (first|(go_at_call 76;refine ht.mono ?_;rintro e w2 ⟨rfl,hb2⟩;have HB2:Hid (Below w.heap.size w w2):=HI.out.2.trans (hb2.mono HI.out.2.size);clear hb2)|(go_at_call 225;refine (hntz _).mono ?_;rintro e w' ⟨rfl,rfl⟩))
    go_ret
    exact ⟨8*k+t,(by go_num),HL.out,HB2.out⟩
  ·have hk':k=n:=by omega
   subst hk';have HL:Hid (LeS S S.length):=LeS.none HOK.out (by rw [HN.out];exact HI.out.1);go_wp2;go_ret
   exact ⟨S.length,rfl,HL.out,HI.out.2⟩
end
end Go.Proofs.YtaijfhadecennabGreat.Oct.Sps
