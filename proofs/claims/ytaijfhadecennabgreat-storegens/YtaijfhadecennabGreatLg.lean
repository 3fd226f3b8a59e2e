/- Part of a proof. -/
import Derived.Test.YtaijfhadecennabGreatLc
import Derived.Laws.AppendOwnNone
import Derived.Test.YtaijfhadecennabGreatBa
open Go.Proofs.Tryz
set_option maxHeartbeats 2000000
namespace Go.Proofs.YtaijfhadecennabGreat.Oct.Sps
open Go.RowKit
section
variable {w w':World} {s a ca b cb:Nat} {F:Nat->Prop} {S:List Int}
theorem alloc_any (h:Spa w s F S):Calls prog 166 #[.pointer (some ⟨s,0,none⟩)] w fun e w'=>e=.returned (.tuple #[.int .i64 (alN S),.int .i64 (alE S)])/\∃F',Spa w' s F' (alL S)/\Step F F' w w':=by
 obtain ⟨a,ca,b,cb,h⟩:=h;have hm:=made_any h;have hl:=least_any h;have HX:Hid (SpX w s a ca b cb F S):=h;obtain ⟨n,hn⟩:∃n,(S.length+7)/8=n:=⟨_,rfl⟩;have HN:Hid ((S.length+7)/8=n):=hn;clear h hn;by_cases hf:frI S<S.length
 ·have HE:Hid (alN S=(frI S:Int)/\alE S=0/\alL S=S.set (frI S) 2):=by
   show _/\_/\_;unfold alN alE alL;rw [if_pos hf,if_pos hf,if_pos hf];exact ⟨rfl,rfl,rfl⟩
  have HZ:Hid (S.getD (frI S) 0=0):=VN hf;obtain ⟨k,hk⟩:∃k,frI S=k:=⟨_,rfl⟩;rw [hk] at hf HE HZ;have HK:Hid (frI S=k):=hk;have HF:Hid (k<S.length):=hf;clear hk hf;go_enter func166,ntmps166
  go_wp2_with (first|(go_at_call 74;refine hm.mono ?_;rintro e w' ⟨rfl,rfl⟩)|(go_at_call 201;refine hl.mono ?_;rintro e w1 ⟨m,rfl,HL,hb1⟩;have hmk:m=k:=(HL.out.1 (by rw [HK.out];exact HF.out)).trans HK.out;subst hmk;have HX1:Hid (SpX w1 s a ca b cb F S):=HX.out.below hb1;have HB1:Hid (Below w.heap.size w w1):=hb1;have hh:=has_any HX1.out m;rw [show inB S m=true by unfold inB;rw [jF (show (0:Int)<=m by omega),jF (show (m:Int)<S.length by have:=HF.out;omega)];rfl] at hh;obtain ⟨-,-,c2⟩:=HX1.out.at;rw [HN.out] at c2;clear hb1 HL)|(go_at_call 179;refine hh.mono ?_;clear hh;rintro e w' ⟨rfl,rfl⟩)|(go_at_call 122;have hd:=UJ b ((S.length+7)/8) cb (bitL S) m w1 HX1.out.next (bitL_bys S) (by rw [bitL_len];have:=HX1.out.ok.hi;omega) (by rw [bitL_len];have:=HF.out;omega);rw [HN.out] at hd;refine hd.mono ?_;clear hd;rintro e w2 ⟨rfl,h2,h3⟩;rw [<-HN.out] at h2;have H2:Hid _:=h2;have H3:Hid _:=h3;clear h2 h3))
  go_ret2
  rw [HE.out.1,HE.out.2.1,HE.out.2.2];exact ⟨rfl,F,⟨_,_,_,_,HX1.out.take HF.out HZ.out H2.out H3.out⟩,(Step.ofB HB1.out).trans (vH HX1.out.fb H3.out)⟩
 ·have HE:Hid (alN S=0/\alE S=6/\alL S=S):=by
   show _/\_/\_;unfold alN alE alL;rw [if_neg hf,if_neg hf,if_neg hf];exact ⟨rfl,rfl,rfl⟩
  have HF:Hid (¬frI S<S.length):=hf;clear hf;go_enter func166,ntmps166
  go_wp2_with (first|(go_at_call 74;refine hm.mono ?_;rintro e w' ⟨rfl,rfl⟩)|(go_at_call 201;refine hl.mono ?_;rintro e w1 ⟨m,rfl,HL,hb1⟩;have HX1:Hid (SpX w1 s a ca b cb F S):=HX.out.below hb1;have HB1:Hid (Below w.heap.size w w1):=hb1;have hh:=has_any HX1.out m;rw [show inB S m=false by unfold inB;rw [jF (show (0:Int)<=m by omega),jM (show ¬(m:Int)<S.length by have:=HL.out.2.1 HF.out;omega)];rfl] at hh;clear hb1 HL)|(go_at_call 179;refine hh.mono ?_;clear hh;rintro e w' ⟨rfl,rfl⟩))
  go_ret2
  rw [HE.out.1,HE.out.2.1,HE.out.2.2];exact ⟨rfl,F,⟨_,_,_,_,HX1.out⟩,Step.ofB HB1.out⟩
theorem free_any (h:Spa w s F S):Calls prog 46 #[.pointer (some ⟨s,0,none⟩)] w fun e w'=>e=.returned (.int .i64 (S.count 0))/\Below w.heap.size w w':=by
 obtain ⟨a,ca,b,cb,h⟩:=h;have hm:=made_any h;obtain ⟨c0,c1,c2⟩:=h.at;have hhi:=h.ok.hi;have HX:Hid (∀w',Below w.heap.size w w'->SpX w' s a ca b cb F S):=fun w' hb=>h.below hb
 obtain ⟨n,hn⟩:∃n,(S.length+7)/8=n:=⟨_,rfl⟩;have HN:Hid ((S.length+7)/8=n):=hn;have hn1:n<=1000:=by omega
 have hsl:S.length<=5000:=by omega
 rw [hn] at c1 c2;clear h hn hhi;go_enter func46,ntmps46
 go_wp2_with (go_at_call 74;refine hm.mono ?_;rintro e w' ⟨rfl,rfl⟩)
 go_loopw [3,17] (fun v i wr=>∃k:Nat,k<=n/\i=.int .i64 k/\v=.int .i64 ((S.length:Int)-nzC S (8*k))/\Hid (Below w.heap.size w wr)) (fun _ i _=>n-(intOf i).toNat)
 case atStart=>exact ⟨0,jW _,rfl,(by simp [nzC]),Below.refl _ _⟩
 case round=>
  obtain ⟨k,hk,rfl,rfl,HI⟩:=hrel;obtain ⟨d0,d1,d2⟩:=(HX.out wr HI.out).at;rw [HN.out] at d1 d2;by_cases hlt:k<n
  ·have ht:=kM (HX.out wr HI.out) k (by rw [HN.out];exact hlt);have hyb:=FP (fun b=>nzB (S.getD (8*k+b) 0));have hon:=fun w'=>ones_any (tkY S k) w' hyb.1 hyb.2
   have HZ:Hid (nzC S (8*(k+1))=nzC S (8*k)+(Lib.onesCount (tkY S k).toNat:Int)):=nzC_8 S k;have hc1:=nzC_in S (8*k);obtain ⟨y,hy⟩:∃y,tkY S k=y:=⟨_,rfl⟩;obtain ⟨o,ho⟩:∃o,Lib.onesCount (tkY S k).toNat=o:=⟨_,rfl⟩;have ho8:o<=8:=by have:=Lib.onesCount_le8 ⟨(tkY S k).toNat,(by have:0<=tkY S k/\tkY S k<=255:=hyb;omega)⟩;rw [<-ho];exact this
   simp only [ho] at hon;rw [ho] at HZ;rw [hy] at ht hon;obtain ⟨x,hx⟩:∃x,nzC S (8*k)=x:=⟨_,rfl⟩;rw [hx] at HZ hc1 ⊢;clear hy ho hyb hx;go_wp2_with (first|(go_at_call 76;refine ht.mono ?_;rintro e w2 ⟨rfl,hb2⟩;have HB2:Hid (Below w.heap.size w w2):=HI.out.trans (hb2.mono HI.out.size);clear hb2)|(go_at_call 75;refine (hon _).mono ?_;rintro e w' ⟨rfl,rfl⟩))
   go_roundw
   case rel=>exact ⟨k+1,by omega,by go_num,(by rw [HZ.out,<-Int.sub_sub]),HB2.out⟩
   case measure=>simp [intOf];omega
  ·have hk':k=n:=by omega
   subst hk'
   have HE:Hid ((S.length:Int)-nzC S (8*k)=S.count 0):=by
    show _=_;rw [nzC_ge S (8*k) (by have:=HN.out;omega),nzC_all]
   rw [HE.out];go_wp2;go_ret
   exact ⟨rfl,HI.out⟩
theorem row_src {g c:Nat} {zs:List Int} (h:Row w (some ⟨g,0,none⟩) c zs):∀(j:Nat) (u:Value),(zs.map (Value.int .u8))[j]?=some u->w.cell? ((⟨g,0,none⟩:Addr).add j)=some u:=fun j u hj=>by
 have hlt:j<zs.length:=by
  rcases Nat.lt_or_ge j zs.length with e|e
  ·exact e
  ·rw [jX (by simpa using e)] at hj;cases hj
 have e1:=h.cells j hlt;rw [xE] at e1;rw [show (⟨g,0,none⟩:Addr).add j=⟨g,j,none⟩ by unfold Addr.add;split<;>simp_all,e1];rw [qN,jC hlt] at hj;rw [jA,jC hlt];exact hj
theorem VA (zs:List Int):∀v∈zs.map (Value.int .u8),v.oneCell'=true:=fun v hv=>by
 obtain ⟨z,_,rfl⟩:=List.mem_map.1 hv;rfl
set_option maxRecDepth 20000 in
theorem commit_any (h:Spa w s F S):Calls prog 89 #[.pointer (some ⟨s,0,none⟩)] w fun e w'=>e=.returned (.tuple #[])/\∃F',Spa w' s F' (trS 1 0 S)/\Step F F' w w':=by
 obtain ⟨a,ca,b,cb,h⟩:=h;have hm:=made_any h;obtain ⟨-,c1,c2⟩:=h.at;have HS:Hid (∀(j:Nat) (u:Value),((bitL S).map (Value.int .u8))[j]?=some u->w.cell? ((⟨b,0,none⟩:Addr).add j)=some u):=row_src h.rowB;obtain ⟨cur,q1,q2,q3⟩:=own_whole (cs:=bitL S) h.last (bitL_len S);have HL:Hid (((bitL S).map (Value.int .u8)).length=Nat.min ((S.length+7)/8) ((S.length+7)/8)):=by show _=_;rw [qQ,bitL_len];exact (Nat.min_self _).symm
 have Q1:Hid (w.heap[a]?=some (.cells cur 5 (0,0))):=q1;have Q2:Hid (0+((bitL S).map (Value.int .u8)).length<=cur.size):=by show _<=_;omega
 obtain ⟨X,hX⟩:∃X,(cur.toList.take 0++((bitL S).map (Value.int .u8)++cur.toList.drop (0+((bitL S).map (Value.int .u8)).length))).toArray=X:=⟨_,rfl⟩;rw [hX] at q3;have HXX:Hid ((cur.toList.take 0++((bitL S).map (Value.int .u8)++cur.toList.drop (0+((bitL S).map (Value.int .u8)).length))).toArray=X):=hX;have Q3:Hid (Own 0 (w.setRow a X) (.slice (some ⟨a,0,none⟩) ((S.length+7)/8) ca) (bitL S)):=q3;have HX:Hid (SpX w s a ca b cb F S):=h;obtain ⟨n,hn⟩:∃n,(S.length+7)/8=n:=⟨_,rfl⟩;rw [hn] at c1 c2 HL;clear h q1 q2 q3 hn hX;go_enter func89,ntmps89
 go_wp2_with (go_at_call 74;refine hm.mono ?_;rintro e w' ⟨rfl,rfl⟩)
 go_still_tail 8,(by kernel_rfl)
 refine wpList_copy_own (by rfl) (.tmp 7) (.tmp 11) 149 149 (by rfl) 5 underlying149 size5 a 0 n ca ⟨b,0,none⟩ n cb (by rfl) (by rfl) cur 5 Q1.out ((bitL S).map (Value.int .u8)) HL.out HS.out Q2.out (VA _) ?_;rw [HXX.out];go_wp2;go_end0
 exact ⟨rfl,F,⟨a,ca,b,cb,(HX.out.last' (xO (by simp [World.setRow])) (fun g _ hg=>setRow_other w a g _ hg) (JB _ _ _) (fB HX.out.ok (by omega) (by omega)) (commit_bit HX.out.ok) (by rw [commit_las HX.out.ok];exact Q3.out)).below ⟨rfl,rfl,rfl,jB _,fun _ _=>rfl⟩⟩,Step.of (((Ch.refl _ F w).setRow (.inr HX.out.fa) _).trans ⟨rfl,rfl,rfl,jB _,fun _ _ _=>rfl⟩)⟩
theorem doubt_any (h:Spa w s F S):Calls prog 93 #[.pointer (some ⟨s,0,none⟩)] w fun e w'=>e=.returned (.tuple #[])/\∃F',Spa w' s F' (trS 1 3 S)/\Step F F' w w':=by
 obtain ⟨a,ca,b,cb,h⟩:=h;have hm:=made_any h;obtain ⟨c0,c1,c2⟩:=h.at;have hhi:=h.ok.hi;have HX:Hid (SpX w s a ca b cb F S):=h;obtain ⟨n,hn⟩:∃n,(S.length+7)/8=n:=⟨_,rfl⟩;have HN:Hid ((S.length+7)/8=n):=hn;have hn1:n<=1000:=by omega
 obtain ⟨-,-,k1,k2,-⟩:=h.last.cur;obtain ⟨-,-,k3,k4,-⟩:=h.next.cur;rw [hn] at c1 c2 k1 k3;unfold maxLen at k2 k4;have HO:Hid (Own 0 w (.slice (some ⟨a,0,none⟩) n ca) (orK S 0)):=by show Own _ _ _ _;rw [orK_zero,<-hn];exact h.last
 clear h hn hhi;go_enter func93,ntmps93
 go_wp2_with (go_at_call 74;refine hm.mono ?_;rintro e w' ⟨rfl,rfl⟩)
 go_loopw [11] (fun i wr=>∃k:Nat,k<=n/\i=.int .i64 k/\Hid (Own 0 wr (.slice (some ⟨a,0,none⟩) n ca) (orK S k)/\Ch w.heap.size (fun x=>x=a) w wr)) (fun i _=>n-(intOf i).toNat)
 case atStart=>exact ⟨0,jW _,rfl,(by show _/\_;exact ⟨HO.out,Ch.refl _ _ _⟩)⟩
 case round=>
  clear HO;obtain ⟨k,hk,rfl,HI⟩:=hrel;have hsw:∀p:Addr,p.block=s->wr.cell? p=w.cell? p:=fun p hp=>HI.out.2.cell (by rw [hp];exact HX.out.lt s HX.out.fs) (by rw [hp];exact HX.out.sa)
  have d1:=(hsw ⟨s,1,none⟩ rfl).trans c1;have d2:=(hsw ⟨s,2,none⟩ rfl).trans c2;clear hsw;by_cases hlt:k<n
  ·have hkl:k<(S.length+7)/8:=by rw [HN.out];exact hlt
   obtain ⟨-,e1,e2,e3⟩:=YC HI.out.1 k (by rw [orK_len];exact hkl);have f1:=HX.out.rowB.cells k (by rw [bitL_len];exact hkl);rw [xE] at f1;have f2:=(HI.out.2.cell (p:=⟨b,k,none⟩) (HX.out.lt b HX.out.fb) (fun e=>HX.out.ab e.symm)).trans f1;have HSu:Hid (orK S (k+1)=(orK S k).set k (bits .or .u8 ((lasL S).getD k 0) ((bitL S).getD k 0))):=orK_succ HX.out.ok hkl;have hxb:=(VG S).at k;have hyb:=(bitL_bys S).at k;rw [orK_at hkl] at e1;obtain ⟨x,hx⟩:∃x,(lasL S).getD k 0=x:=⟨_,rfl⟩;obtain ⟨y,hy⟩:∃y,(bitL S).getD k 0=y:=⟨_,rfl⟩;rw [hx] at e1 HSu hxb;rw [hy] at f2 HSu hyb;have HW:Hid (∀y:Int,Own 0 (wr.setCell ⟨a,k,none⟩ (.int .u8 y)) (.slice (some ⟨a,0,none⟩) n ca) ((orK S k).set k y)):=e3;clear hx hy e3 f1 hkl c0 c1 c2;go_wp2;go_roundw
   case rel=>exact ⟨k+1,by omega,by go_num,(by show _/\_;rw [HSu.out];exact ⟨HW.out _,(HI.out.2.setCell (p:=⟨a,k,none⟩) (.inr rfl) _)⟩)⟩
   case measure=>simp [intOf];omega
  ·have hk':k=n:=by omega
   subst hk'
   have HO:Hid (Own 0 wr (.slice (some ⟨a,0,none⟩) ((S.length+7)/8) ca) (lasL (trS 1 3 S))):=by
    show Own _ _ _ _;have:=HI.out.1;rw [<-HN.out,orK_all] at this;exact this
   go_wp2;go_end0
   exact ⟨rfl,F,⟨a,ca,b,cb,HX.out.last' HI.out.2.size (fun g hg ha=>HI.out.2.block g (HX.out.lt g hg) ha) (JB _ _ _) (fB HX.out.ok (by omega) (by omega)) (doubt_bit HX.out.ok) HO.out⟩,vH HX.out.fa HI.out.2⟩
end
end Go.Proofs.YtaijfhadecennabGreat.Oct.Sps
namespace Go.Proofs.YtaijfhadecennabGreat.Oct.Sps
open Go.RowKit
theorem nil_set (w:World) (a:Option Addr) (n c:Nat):(binOp .eql 149 (.slice a n c) (.slice none 0 0)).run prog w=.ok (.bool a.isNone) w:=Lib.run_eql_slice_nil w 149 5 a n c 0 0 underlying149
theorem row_srcA {w:World} {ad:Addr} {c:Nat} {zs:List Int} (h:Row w (some ad) c zs):∀(j:Nat) (u:Value),(zs.map (Value.int .u8))[j]?=some u->w.cell? (ad.add j)=some u:=fun j u hj=>by
 have hlt:j<zs.length:=by
  rcases Nat.lt_or_ge j zs.length with e|e
  ·exact e
  ·rw [jX (by simpa using e)] at hj;cases hj
 obtain ⟨b,off,e⟩:=h.some' (by omega);cases e;have e1:=h.cells j hlt;rw [show (⟨b,off,none⟩:Addr).add j=⟨b,off+j,none⟩ by simp [Addr.add],e1];rw [qN,jC hlt] at hj;rw [jA,jC hlt];exact hj
theorem JD (ad:Addr) (cap:Nat) (zs:List Int) (w:World) (h:Row w (some ad) cap zs) (hsz:zs.length<=140737488355328):
  Calls prog 108 #[.slice (some ad) zs.length cap] w fun e w'=>∃g c,e=.returned (.slice (some ⟨g,0,none⟩) zs.length c)/\Own w.heap.size w' (.slice (some ⟨g,0,none⟩) zs.length c) zs/\Below w.heap.size w w':=by
 obtain ⟨i0,hi,hz0,hz1,hz2⟩:=info_parts info5;have hm:zs.length<=maxLen:=jR h.2.1 h.2.2.1;have hr:=h.below ((Below.refl w.heap.size w).alloc (jB _) (.cells #[] 5));have ho:(w.alloc (.cells #[] 5)).ownsRow w.heap.size 5 1 (.slice (some ⟨w.heap.size,0,none⟩) 0 0) 0 []:=World.ownsRow_made w #[] 0 (jB _) (by simp [maxLen]) rfl;have HN:Hid (∀(j:Nat) (u:Value),(zs.map (Value.int .u8))[j]?=some u->(w.alloc (.cells #[] 5)).cell? (ad.add j)=some u):=row_srcA hr;clear h hr;have hq:=nil_set w (some ad) zs.length cap;go_enter func108,ntmps108
 go_wp2_with (at_builtin;refine wpList_append_own _ rfl _ _ 149 rfl w.heap.size 5 i0 (.int .u8 0) 1 1 underlying149 hi hz0 hz1 hz2 rfl (by decide) _ _ _ rfl ho ad zs.length cap (zs.map (Value.int .u8)) rfl (by simp) HN.out (VA zs) (by omega) (by omega) (by simp) ?_)
 intro v' w1 hown' hgrow hnil;have hb:Below w.heap.size w w1:=((Below.refl w.heap.size w).alloc (jB _) _).grown hgrow (by simp) (fun k hk=>by simp [Value.ownBlock] at hk;omega)
 have hv:∃g c,v'=.slice (some ⟨g,0,none⟩) zs.length c:=by
  rcases hown'.2 with ⟨e,_⟩|⟨g,c,cur,e,_⟩
  ·exact (hnil e).elim
  ·exact ⟨g,c,e⟩
 obtain ⟨g,c,hv⟩:=hv
 have HO:Hid (Own w.heap.size w1 (.slice (some ⟨g,0,none⟩) zs.length c) zs):=by
  rw [<-hv];exact hown'
 clear hown' hgrow hnil HN ho;rw [hv];go_wp2;go_ret
 exact ⟨g,c,rfl,HO.out,hb⟩
section
variable {w w':World} {s a ca b cb:Nat} {F:Nat->Prop} {S:List Int}
theorem bits_any (h:Spa w s F S):Calls prog 125 #[.pointer (some ⟨s,0,none⟩)] w fun e w'=>∃g c,e=.returned (.slice (some ⟨g,0,none⟩) ((S.length+7)/8) c)/\Own w.heap.size w' (.slice (some ⟨g,0,none⟩) ((S.length+7)/8) c) (bitL S)/\Below w.heap.size w w':=by
 obtain ⟨a,ca,b,cb,h⟩:=h;have hm:=made_any h;obtain ⟨-,-,c2⟩:=h.at;have hc:=JD ⟨b,0,none⟩ cb (bitL S) w h.rowB (by rw [bitL_len];have:=h.ok.hi;omega);rw [bitL_len] at hc;obtain ⟨n,hn⟩:∃n,(S.length+7)/8=n:=⟨_,rfl⟩;rw [hn] at c2 hc ⊢;clear h hn;go_enter func125,ntmps125
 go_wp2_with (first|(go_at_call 74;refine hm.mono ?_;rintro e w' ⟨rfl,rfl⟩)|(go_at_call 108;refine hc.mono ?_;rintro e w1 ⟨g,c,rfl,ho,hb⟩;have HO:Hid _:=ho;have HB:Hid _:=hb;clear ho hb))
 go_ret
 exact ⟨g,c,rfl,HO.out,HB.out⟩
theorem SpX.new {w1 w2:World} {g1 c1 g2 c2:Nat} (hS:SpOk S) (o1:Own w.heap.size w1 (.slice (some ⟨g1,0,none⟩) ((S.length+7)/8) c1) (lasL S)) (b1:Below w.heap.size w w1) (o2:Own w1.heap.size w2 (.slice (some ⟨g2,0,none⟩) ((S.length+7)/8) c2) (bitL S)) (b2:Below w1.heap.size w1 w2):
  Spa (w2.alloc (.cells #[.int .i64 S.length,.slice (some ⟨g1,0,none⟩) ((S.length+7)/8) c1,.slice (some ⟨g2,0,none⟩) ((S.length+7)/8) c2] 151)) w2.heap.size (fun k=>w.heap.size<=k/\k<=w2.heap.size) S/\Below w.heap.size w (w2.alloc (.cells #[.int .i64 S.length,.slice (some ⟨g1,0,none⟩) ((S.length+7)/8) c1,.slice (some ⟨g2,0,none⟩) ((S.length+7)/8) c2] 151)):=by
 have l1:=o1.lt2;have l2:=o2.lt2;have s1:=b1.size;have s2:=b2.size;have hc:=heap_alloc_new w2 (.cells #[.int .i64 S.length,.slice (some ⟨g1,0,none⟩) ((S.length+7)/8) c1,.slice (some ⟨g2,0,none⟩) ((S.length+7)/8) c2] 151);have hlt:=yO hc;have hb:Below w.heap.size w w2:=b1.trans (b2.mono s1);have bl:=(Below.refl w2.heap.size w2).alloc (jB _) (.cells #[.int .i64 S.length,.slice (some ⟨g1,0,none⟩) ((S.length+7)/8) c1,.slice (some ⟨g2,0,none⟩) ((S.length+7)/8) c2] 151);refine ⟨⟨g1,c1,g2,c2,fun k hk=>Nat.lt_of_le_of_lt hk.2 hlt,⟨by omega,jB _⟩,⟨by omega,by omega⟩,⟨by omega,by omega⟩,hS,hc,?_,?_,by omega,by omega,by omega⟩,hb.alloc hb.size _⟩
 ·exact (o1.zero.kept (b2.block g1 l1.2)).kept (bl.block g1 (by omega))
 ·exact o2.zero.kept (bl.block g2 l2.2)
theorem kH (ad:Addr) (cap:Nat) (zs:List Int) (w:World) (n:Nat) (hS:SpOk S) (hn:S.length=n) (e1:lasL S=zs) (e2:bitL S=zs) (h:Row w (some ad) cap zs):
  Calls prog 67 #[.int .i64 n,.slice (some ad) zs.length cap] w fun e w'=>∃s F,e=.returned (.pointer (some ⟨s,0,none⟩))/\Spa w' s F S/\Below w.heap.size w w'/\∀k,F k->w.heap.size<=k:=by
 have hl:zs.length=(S.length+7)/8:=by rw [<-e1,zB]
 have hc1:=JD ad cap zs w h (by have:=hS.hi;omega);have HC2:Hid (∀w',Below w.heap.size w w'->Calls prog 108 #[.slice (some ad) zs.length cap] w' fun e w''=>∃g c,e=.returned (.slice (some ⟨g,0,none⟩) zs.length c)/\Own w'.heap.size w'' (.slice (some ⟨g,0,none⟩) zs.length c) zs/\Below w'.heap.size w' w''):=fun w' hb=>JD ad cap zs w' (h.below hb) (by have:=hS.hi;omega)
 have HS:Hid (SpOk S/\S.length=n/\lasL S=zs/\bitL S=zs/\zs.length=(S.length+7)/8):=⟨hS,hn,e1,e2,hl⟩;obtain ⟨m,hm⟩:∃m,zs.length=m:=⟨_,rfl⟩;rw [hm] at hc1 HC2 HS ⊢;clear h hS hn e1 e2 hl hm;go_enter func67,ntmps67
 go_wp2_with (first|(go_at_call 108;refine hc1.mono ?_;clear hc1;rintro e w1 ⟨g1,c1,rfl,o1,b1⟩;have O1:Hid _:=o1;have B1:Hid _:=b1;clear o1 b1)|(go_at_call 108;refine (HC2.out _ B1.out).mono ?_;clear HC2;rintro e w2 ⟨g2,c2,rfl,o2,b2⟩;have O2:Hid _:=o2;have B2:Hid _:=b2;clear o2 b2))
 go_ret
 obtain ⟨hS,hn,e1,e2,hl⟩:=HS.out;have:=SpX.new (w:=w) (w1:=w1) (w2:=w2) (g1:=g1) (c1:=c1) (g2:=g2) (c2:=c2) hS (by rw [e1,<-hl];exact O1.out) B1.out (by rw [e2,<-hl];exact O2.out) B2.out;rw [hn] at this;rw [hn] at hl;rw [<-hl] at this;exact ⟨_,_,rfl,this.1,this.2,fun k hk=>hk.1⟩
end
end Go.Proofs.YtaijfhadecennabGreat.Oct.Sps
namespace Go.Proofs.YtaijfhadecennabGreat.Oct.Sps
open Go.RowKit
section
variable {w w':World} {s a ca b cb:Nat} {F:Nat->Prop} {S:List Int}
theorem clone_any (h:Spa w s F S):Calls prog 129 #[.pointer (some ⟨s,0,none⟩)] w fun e w'=>∃s' F',e=.returned (.pointer (some ⟨s',0,none⟩))/\Spa w' s' F' S/\Below w.heap.size w w'/\∀k,F' k->w.heap.size<=k:=by
 obtain ⟨a,ca,b,cb,h⟩:=h;have hm:=made_any h;obtain ⟨c0,c1,c2⟩:=h.at;have ls:=h.lt s h.fs;have hlen:=h.ok.hi;have hc1:=JD ⟨a,0,none⟩ ca (lasL S) w.drew (h.rowA.below (Below.refl _ _).drew) (by rw [zB];omega)
 have HC2:Hid (∀w',Below w.heap.size w w'->Calls prog 108 #[.slice (some ⟨b,0,none⟩) ((S.length+7)/8) cb] w' fun e w''=>∃g c,e=.returned (.slice (some ⟨g,0,none⟩) ((S.length+7)/8) c)/\Own w'.heap.size w'' (.slice (some ⟨g,0,none⟩) ((S.length+7)/8) c) (bitL S)/\Below w'.heap.size w' w''):=fun w' hb=>by
  have:=JD ⟨b,0,none⟩ cb (bitL S) w' (h.rowB.below hb) (by rw [bitL_len];omega);rw [bitL_len] at this;exact this
 rw [zB] at hc1;have HS:Hid (SpOk S):=h.ok;obtain ⟨n,hn⟩:∃n,(S.length+7)/8=n:=⟨_,rfl⟩;have HN:Hid ((S.length+7)/8=n):=hn;rw [hn] at c1 c2 hc1 HC2;clear h hn hlen;go_enter func129,ntmps129
 go_wp2_with (go_at_call 74;refine hm.mono ?_;rintro e w' ⟨rfl,rfl⟩)
 go_region_held3 (fun w'=>w'.cell? ⟨s,0,none⟩=some (.int .i64 S.length)/\w'.cell? ⟨s,1,none⟩=some (.slice (some ⟨a,0,none⟩) n ca)/\w'.cell? ⟨s,2,none⟩=some (.slice (some ⟨b,0,none⟩) n cb)) (first|go_keep|exact ⟨by assumption,by assumption,by assumption⟩) (first|(go_at_call 108;refine hc1.mono ?_;clear hc1;rintro e w1 ⟨g1,d1,rfl,o1,b1⟩;have O1:Hid (Own w.heap.size w1 (.slice (some ⟨g1,0,none⟩) n d1) (lasL S)):=o1;have B1:Hid (Below w.heap.size w w1):=((Below.refl _ w).drew).trans b1;have t0:=(B1.out.cell (p:=⟨s,0,none⟩) ls).trans c0;have t1:=(B1.out.cell (p:=⟨s,1,none⟩) ls).trans c1;have t2:=(B1.out.cell (p:=⟨s,2,none⟩) ls).trans c2;have ls1:Hid (s<w1.heap.size):=jV ls B1.out.size;clear o1 b1)|(go_at_call 108;refine (HC2.out _ B1.out).mono ?_;clear HC2;rintro e w2 ⟨g2,d2,rfl,o2,b2⟩;have O2:Hid (Own w1.heap.size w2 (.slice (some ⟨g2,0,none⟩) n d2) (bitL S)):=o2;have B2:Hid (Below w1.heap.size w1 w2):=b2;have u0:=(b2.cell (p:=⟨s,0,none⟩) ls1.out).trans t0;have u1:=(b2.cell (p:=⟨s,1,none⟩) ls1.out).trans t1;have u2:=(b2.cell (p:=⟨s,2,none⟩) ls1.out).trans t2;clear o2 b2))
 go_wp2;go_ret
 have:=SpX.new (w:=w) (w1:=w1) (w2:=w2) (g1:=g1) (c1:=d1) (g2:=g2) (c2:=d2) HS.out (by rw [HN.out];exact O1.out) B1.out (by rw [HN.out];exact O2.out) B2.out;rw [HN.out] at this;exact ⟨_,_,rfl,this.1,this.2,fun k hk=>hk.1⟩
end
theorem las_bit {S:List Int} (h:∀i,laB (S.getD i 0)=usB (S.getD i 0)):lasL S=bitL S:=zA fun i _=>h i
theorem ldS_las {zs:List Int} {n:Nat} (hb:Bys zs) (h:ldOk zs n=true):lasL (ldS zs n)=zs:=by
 refine Eq.trans (las_bit fun i=>?_) (GY hb h);by_cases e:i<n
 ·rw [ldS_at e];cases bitR zs i<;>rfl
 ·rw [jA,jX (by rw [XB];omega)];rfl
def twoP (n k:Nat):List Int:=bitsP (fun i=>decide (i<k)) n
theorem newS_at {n i:Nat} (hn:8<=n):(newS n).getD i 0=if i<2 then 1 else 0:=by
 by_cases e:i<n
 ·rw [<-ldK_zero [],ldK_at e];simp
 ·rw [jA,jX (by rw [JF];omega),if_neg (by omega)];rfl
theorem gX {n:Nat} (hn:8<=n):bitL (newS n)=twoP n 2:=by
 unfold bitL twoP;rw [JF];refine zA fun i _=>?_
 rw [newS_at hn];by_cases e:i<2<;>simp [e,usB]
theorem newS_las {n:Nat} (hn:8<=n):lasL (newS n)=twoP n 2:=by
 refine Eq.trans (las_bit fun i=>?_) (gX hn);rw [newS_at hn];by_cases e:i<2<;>simp [e,usB,laB]
theorem UD (n k:Nat):(twoP n k).length=(n+7)/8:=yT _ _
theorem FY (n k:Nat):Bys (twoP n k):=zP _ _
theorem twoP_zero (n:Nat):twoP n 0=List.replicate ((n+7)/8) 0:=by
 rw [<-YX];exact zA fun i _=>by simp
theorem twoP_succ {n k:Nat} (hk:k<n):(twoP n k).set (k/8) (bits .or .u8 ((twoP n k).getD (k/8) 0) (2^(k%8)%256))=twoP n (k+1):=
 XV hk (by simp) fun i hi=>decide_eq_decide.2 (by omega)
theorem new_no (n:Int) (w:World) (h:¬(8<=n/\n<=4096)):Calls prog 77 #[.int .i64 n] w fun e w'=>e=.returned (.tuple #[.pointer none,.int .i64 1])/\Below w.heap.size w w':=by
 have ha:=allowed_any n w;rw [show alwB n=false from jM h] at ha;clear h;go_enter func77,ntmps77
 go_wp2_with (go_at_call 65;refine ha.mono ?_;rintro e w' ⟨rfl,rfl⟩)
 go_ret2
 exact ⟨rfl,Below.refl _ _⟩
set_option maxRecDepth 20000 in
theorem new_yes (n:Nat) (w:World) (h8:8<=n) (h4:n<=4096):Calls prog 77 #[.int .i64 n] w fun e w'=>∃s F,e=.returned (.tuple #[.pointer (some ⟨s,0,none⟩),.int .i64 0])/\Spa w' s F (newS n)/\Below w.heap.size w w'/\∀k,F k->w.heap.size<=k:=by
 obtain ⟨i0,hi0,hz0,hz1,hz2⟩:=info_parts info5;have ha:=allowed_any n w;rw [show alwB n=true from jF ⟨by omega,by omega⟩] at ha;have hr:=gI n w h4;obtain ⟨nb,hnb⟩:∃nb,(n+7)/8=nb:=⟨_,rfl⟩;have HN:Hid ((n+7)/8=nb):=hnb;have H8:Hid (8<=n/\n<=4096):=⟨h8,h4⟩;have hm:nb<=maxLen:=by unfold maxLen;omega
 have hnb1:nb<=513:=by omega
 rw [hnb] at hr;clear hnb;go_enter func77,ntmps77
 go_wp2_with (first|(go_at_call 65;refine ha.mono ?_;rintro e w' ⟨rfl,rfl⟩)|(go_at_call 106;refine hr.mono ?_;rintro e w' ⟨rfl,rfl⟩)|(at_make;refine wpList_make_full _ rfl _ _ 149 rfl w.heap.size 5 i0 (.int .u8 0) 1 underlying149 hi0 hz0 hz1 .i64 .i64 _ _ nb rfl rfl rfl rfl (by rw [hz2];omega) hm (jB _) ?_;intro w1 hown1 hgrow1;have HO:Hid (Own 0 w1 (.slice (some ⟨w.heap.size,0,none⟩) nb nb) (twoP n 0)):=(by show Own _ _ _ _;rw [twoP_zero,HN.out];exact (JG hown1).zero);have HB:Hid (Below w.heap.size w w1):=(Below.refl _ w).grown hgrow1 (jB _) (by simp);have HLT:Hid (w.heap.size<w1.heap.size):=(JG hown1).lt2.2;clear hown1 hgrow1))
 go_loopw [12] (fun i wr=>∃k:Nat,k<=2/\i=.int .i64 k/\Hid (Own 0 wr (.slice (some ⟨w.heap.size,0,none⟩) nb nb) (twoP n k)/\Below w.heap.size w wr)) (fun i _=>2-(intOf i).toNat)
 case atStart=>exact ⟨0,jW _,rfl,(by show _/\_;exact ⟨HO.out,HB.out⟩)⟩
 case round=>
  clear HO HB;obtain ⟨k,hk,rfl,HI⟩:=hrel;by_cases hlt:k<2
  ·have hd:=UJ w.heap.size nb nb (twoP n k) k wr HI.out.1 (FY n k) (by rw [UD];omega) (by rw [UD];omega);rw [twoP_succ (show k<n by omega)] at hd;go_wp2_with (go_at_call 122;refine hd.mono ?_;clear hd;rintro e w2 ⟨rfl,h2,h3⟩;have HJ:Hid (Own 0 w2 (.slice (some ⟨w.heap.size,0,none⟩) nb nb) (twoP n (k+1))/\Below w.heap.size w w2):=⟨h2,HI.out.2.trans ((h3.mono HI.out.2.size (fun _ _ e=>e)).below (fun _ e=>xO e.symm))⟩;clear h2 h3)
   go_roundw
   case rel=>exact ⟨k+1,by omega,by go_num,HJ.out⟩
   case measure=>simp [intOf];omega
  ·have hk':k=2:=by omega
   subst hk';have hu:=kH ⟨w.heap.size,0,none⟩ nb (twoP n 2) wr n (newS_ok H8.out.1 H8.out.2) (JF n) (newS_las H8.out.1) (gX H8.out.1) (HI.out.1.row' (FY n 2)).2;rw [UD,HN.out] at hu;go_wp2_with (go_at_call 67;refine hu.mono ?_;clear hu;rintro e w2 ⟨s,F,rfl,h2,h3,h4⟩;have H2:Hid _:=h2;have HB:Hid (Below w.heap.size w w2):=HI.out.2.trans (h3.mono HI.out.2.size);have HF:Hid (∀k,F k->w.heap.size<=k):=(fun k hk=>jR HI.out.2.size (h4 k hk));clear h2 h3 h4)
   go_ret2
   exact ⟨_,_,rfl,H2.out,HB.out,HF.out⟩
theorem whole_any (n:Nat) (ad:Option Addr) (cap:Nat) (zs:List Int) (w:World) (hr:Row w ad cap zs) (hl:zs.length<=1000000) (h8:8<=n) (h4:n<=4096):
  Calls prog 66 #[.int .i64 n,.slice ad zs.length cap] w fun e w'=>e=.returned (.bool (ldOk zs n))/\w=w':=by
 have hro:=gI n w h4;by_cases hlen:zs.length=(n+7)/8
 ·have HH:Hid (∀k,k<8*zs.length->Calls prog 107 #[.slice ad zs.length cap,.int .i64 k] w fun e w'=>e=.returned (.bool (bitR zs k))/\w=w'):=fun k hk=>YQ ad cap zs k w hr hl (by omega)
  have HLN:Hid (zs.length=(n+7)/8):=hlen;rw [<-hlen] at hro;obtain ⟨m,hm⟩:∃m,zs.length=m:=⟨_,rfl⟩;have HM:Hid (zs.length=m):=hm;have hm1:m<=1000:=by omega
  obtain ⟨M,hM⟩:∃M,8*m=M:=⟨_,rfl⟩;have hMi:(8:Int)*(m:Int)=(M:Int):=by omega
  have hM1:M<=8000:=by omega
  have hm2:n<=M:=by omega
  have HMM:Hid (8*m=M):=hM;rw [hm] at hro HH ⊢;rw [hM] at HH;have H8:Hid (8<=n):=h8;clear hlen hm hr hl hM;go_enter func66,ntmps66
  go_wp2_with (go_at_call 106;refine hro.mono ?_;rintro e w' ⟨rfl,rfl⟩)
  go_loopw [12] (fun i wr=>∃k:Nat,k<=2/\i=.int .i64 k/\w=wr/\Hid (∀j,j<k->bitR zs j=true)) (fun i _=>2-(intOf i).toNat)
  case atStart=>exact ⟨0,jW _,rfl,rfl,fun j hj=>by omega⟩
  case round=>
   obtain ⟨k,hk,rfl,rfl,HI⟩:=hrel;by_cases hlt:k<2
   ·have hh:=HH.out k (by omega);cases hb:bitR zs k with
    |false=>
     rw [hb] at hh;have HE:Hid (ldOk zs n=false):=ldOk_no (k:=k) (by rw [HM.out];have:=HMM.out;omega) (by unfold ldF;rw [hb,jF hlt];rfl);clear hb;go_wp2_with (go_at_call 107;refine hh.mono ?_;clear hh;rintro e w' ⟨rfl,rfl⟩)
     go_ret
     rw [HE.out];exact ⟨rfl,rfl⟩
    |true=>
     rw [hb] at hh;have HB:Hid (bitR zs k=true):=hb;clear hb;go_wp2_with (go_at_call 107;refine hh.mono ?_;clear hh;rintro e w' ⟨rfl,rfl⟩)
     go_roundw
     case rel=>exact ⟨k+1,by omega,by go_num,trivial,fun j hj=>by rcases Nat.lt_succ_iff_lt_or_eq.1 hj with h|rfl;exact HI.out j h;exact HB.out⟩
     case measure=>simp [intOf];omega
   ·have hk':k=2:=by omega
    subst hk';rw [show ((2:Nat):Int)=2 from rfl];clear hk hlt;go_wp2;go_loopw [6] (fun i wx=>∃k:Nat,n<=k/\k<=M/\i=.int .i64 k/\w=wx/\Hid (∀j,n<=j->j<k->bitR zs j=false)) (fun i _=>M-(intOf i).toNat)
    case atStart=>exact ⟨n,jB _,hm2,rfl,rfl,fun j h1 h2=>by omega⟩
    case round=>
     obtain ⟨k,hk1,hk2,rfl,rfl,HJ⟩:=hrel;by_cases hlt:k<M
     ·have hh:=HH.out k hlt;cases hb:bitR zs k with
      |true=>
       rw [hb] at hh;have HE:Hid (ldOk zs n=false):=ldOk_no (k:=k) (by rw [HM.out];have:=HMM.out;omega) (by unfold ldF;rw [hb,jF hk1];simp);clear hb;go_wp2_with (go_at_call 107;refine hh.mono ?_;clear hh;rintro e w' ⟨rfl,rfl⟩)
       go_ret
       rw [HE.out];exact ⟨rfl,rfl⟩
      |false=>
       rw [hb] at hh;have HB:Hid (bitR zs k=false):=hb;clear hb;go_wp2_with (go_at_call 107;refine hh.mono ?_;clear hh;rintro e w' ⟨rfl,rfl⟩)
       go_roundw
       case rel=>exact ⟨k+1,by omega,by omega,by go_num,trivial,fun j h1 hj=>by rcases Nat.lt_succ_iff_lt_or_eq.1 hj with h|rfl;exact HJ.out j h1 h;exact HB.out⟩
       case measure=>simp [intOf];omega
     ·have HE:Hid (ldOk zs n=true):=ldOk_yes HLN.out fun j hj=>by
       rw [HM.out] at hj;have hj2:=HMM.out;unfold ldF;by_cases e2:j<2
       ·rw [HI.out j e2,jM (show ¬n<=j by have:=H8.out;omega)];simp
       ·by_cases e3:n<=j
        ·rw [HJ.out j e3 (by omega)];simp [e2]
        ·simp [e2,e3]
      go_wp2;go_ret
      rw [HE.out];exact ⟨rfl,rfl⟩
 ·have HE:Hid (ldOk zs n=false):=by show _=_;unfold ldOk;rw [jM hlen];rfl
  have hne:((zs.length:Int)==(((n+7)/8:Nat):Int))=false:=by simp;omega
  obtain ⟨nb,hnb⟩:∃nb,(n+7)/8=nb:=⟨_,rfl⟩;rw [hnb] at hro hne;clear hlen hnb hr;go_enter func66,ntmps66
  go_wp2_with (go_at_call 106;refine hro.mono ?_;rintro e w' ⟨rfl,rfl⟩)
  go_ret
  rw [HE.out];exact ⟨rfl,rfl⟩
theorem load_any (n:Int) (ad:Option Addr) (cap:Nat) (zs:List Int) (w:World) (hr:Row w ad cap zs) (hl:zs.length<=1000000):
  Calls prog 38 #[.int .i64 n,.slice ad zs.length cap] w (LdS Spa w zs n):=by
 have ha:=allowed_any n w;by_cases hn:8<=n/\n<=4096
 ·rw [show alwB n=true from jF hn] at ha;obtain ⟨N,rfl⟩:=qB (show 0<=n by omega);have hw:=whole_any N ad cap zs w hr hl (by omega) (by omega);cases hb:ldOk zs N with
  |false=>
   rw [hb] at hw;have HE:Hid (ldE zs N=4):=by show _=_;unfold ldE;rw [if_pos hn,jS,hb];rfl
   clear hb hn hr;go_enter func38,ntmps38
   go_wp2_with (first|(go_at_call 65;refine ha.mono ?_;rintro e w' ⟨rfl,rfl⟩)|(go_at_call 66;refine hw.mono ?_;rintro e w' ⟨rfl,rfl⟩))
   go_ret2
   exact ⟨Below.refl _ _,.inl (by rw [HE.out];exact ⟨by omega,rfl⟩)⟩
  |true=>
   rw [hb] at hw;have HE:Hid (ldE zs N=0):=by show _=_;unfold ldE;rw [if_pos hn,jS,hb];rfl
   have hzl:zs.length=(N+7)/8:=by unfold ldOk at hb;rw [jN] at hb;exact jZ hb.1
   obtain ⟨b,off,rfl⟩:=hr.some' (by omega);have hu:=kH ⟨b,off,none⟩ cap zs w N (ldS_ok zs (by omega) (by omega)) (XB zs N) (ldS_las hr.1 hb) (GY hr.1 hb) hr;clear hb hn hr hzl;go_enter func38,ntmps38
   go_wp2_with (first|(go_at_call 65;refine ha.mono ?_;rintro e w' ⟨rfl,rfl⟩)|(go_at_call 66;refine hw.mono ?_;rintro e w' ⟨rfl,rfl⟩)|(go_at_call 67;refine hu.mono ?_;clear hu;rintro e w2 ⟨s,F,rfl,h2,h3,h4⟩;have H2:Hid _:=h2;have HB:Hid _:=h3;have HF:Hid _:=h4;clear h2 h3 h4))
   go_ret2
   exact ⟨HB.out,.inr ⟨HE.out,_,_,rfl,by rw [jS];exact H2.out,HF.out⟩⟩
 ·rw [show alwB n=false from jM hn] at ha;have HE:Hid (ldE zs n=1):=if_neg hn;clear hn hr;go_enter func38,ntmps38
  go_wp2_with (go_at_call 65;refine ha.mono ?_;rintro e w' ⟨rfl,rfl⟩)
  go_ret2
  exact ⟨Below.refl _ _,.inl (by rw [HE.out];exact ⟨by omega,rfl⟩)⟩
end Go.Proofs.YtaijfhadecennabGreat.Oct.Sps
namespace Go.Proofs.YtaijfhadecennabGreat.Oct
open Go.RowKit
theorem infoPl:(prog.info? 22).map (fun i=>(i.zero,i.size,i.bytes))=some (some (.slice none 0 0),1,24):=by kernel_rfl
def PgL (base:Nat) (w:World) (v:Value) (L:List (List Int)):Prop:=
 ∃vs,w.ownsRow base 22 1 v L.length vs/\∀i,i<L.length->∃g c,vs[i]?=some (.slice (some ⟨g,0,none⟩) (L.getD i []).length c)/\Own base w (.slice (some ⟨g,0,none⟩) (L.getD i []).length c) (L.getD i [])/\v.ownBlock≠some g
theorem pgL_nil (base:Nat) (w:World):PgL base w (.slice none 0 0) []:=⟨[],World.ownsRow_nil _ _ _ _,fun i hi=>by simp at hi⟩
theorem PgL.below {base:Nat} {w w':World} {v:Value} {L:List (List Int)} (h:PgL base w v L) (hb:Below w.heap.size w w'):PgL base w' v L:=by
 obtain ⟨vs,h1,h2⟩:=h;refine ⟨vs,kZ h1 hb,fun i hi=>?_⟩;obtain ⟨g,c,e,ho,hn⟩:=h2 i hi;exact ⟨g,c,e,ho.kept (hb.block g ho.lt2.2),hn⟩
theorem PgL.at {base:Nat} {w:World} {v:Value} {L:List (List Int)} (h:PgL base w v L) (i:Nat) (hi:i<L.length):
  ∃q cap g c,v=.slice (some ⟨q,0,none⟩) L.length cap/\L.length<=cap/\cap<=maxLen/\w.cell? ⟨q,i,none⟩=some (.slice (some ⟨g,0,none⟩) (L.getD i []).length c)/\Own base w (.slice (some ⟨g,0,none⟩) (L.getD i []).length c) (L.getD i [])/\g≠q:=by
 obtain ⟨vs,h1,h2⟩:=h;obtain ⟨g,c,e,ho,hn⟩:=h2 i hi;rcases id h1.2 with ⟨rfl,h0⟩|⟨q,cap,cur,rfl,hq,hc,hl,hm,hs,ht⟩
 ·omega
 ·refine ⟨q,cap,g,c,rfl,hl,hm,?_,ho,fun e2=>hn (by rw [e2];rfl)⟩;rw [World.ownsRow.cellAt h1 i (by omega)];exact e
theorem PgL.slice {base:Nat} {w:World} {v:Value} {L:List (List Int)} (h:PgL base w v L):∃a cap,v=.slice a L.length cap/\L.length<=cap/\cap<=maxLen:=by
 obtain ⟨vs,h1,h2⟩:=h;rcases h1.2 with ⟨h1,h0⟩|⟨q,cap,cur,h1,hq,hc,hl,hm,hs,ht⟩
 ·exact ⟨none,0,by rw [h1,h0],by omega,by simp [maxLen]⟩
 ·exact ⟨_,cap,h1,hl,hm⟩
theorem PgL.snoc {base:Nat} {w w1:World} {v v':Value} {L:List (List Int)} {vs:List Value} {Z:List Int} {g c:Nat} {o:Obj}
  (h2:∀i,i<L.length->∃g c,vs[i]?=some (.slice (some ⟨g,0,none⟩) (L.getD i []).length c)/\Own base w (.slice (some ⟨g,0,none⟩) (L.getD i []).length c) (L.getD i [])/\v.ownBlock≠some g)
  (hvs:vs.length=L.length) (ho:Own base w (.slice (some ⟨g,0,none⟩) Z.length c) Z) (hv:v.ownBlock≠some g)
  (hown':w1.ownsRow base 22 1 v' (L.length+1) (vs++[.slice (some ⟨g,0,none⟩) Z.length c])) (hgrow:(w.alloc o).grownBy w1 v.ownBlock) (hat:∀k,v'.ownBlock=some k->v.ownBlock=some k\/(w.alloc o).heap.size<=k):PgL base w1 v' (L++[Z]):=by
 have hsz:w.heap.size<(w.alloc o).heap.size:=yO (heap_alloc_new w o);have kk:∀x,x<w.heap.size->v.ownBlock≠some x->w1.heap[x]?=w.heap[x]?:=fun x hx hn=>(hgrow.block x (by omega) (fun e=>hn e.symm)).trans (Below.heap_alloc w o x hx)
 have nn:∀x,x<w.heap.size->v.ownBlock≠some x->v'.ownBlock≠some x:=fun x hx hn e=>by
  rcases hat x e with e|e
  ·exact hn e
  ·omega
 refine ⟨vs++[.slice (some ⟨g,0,none⟩) Z.length c],by rw [jO];exact hown',fun i hi=>?_⟩;rw [jO,List.length_singleton] at hi;by_cases e:i<L.length
 ·obtain ⟨g',c',e1,ho1,hn1⟩:=h2 i e;have eg:(L++[Z]).getD i []=L.getD i []:=by rw [jA,xC e,<-jA]
  rw [eg];exact ⟨g',c',by rw [xC (by omega)];exact e1,ho1.kept (kk g' ho1.lt2.2 hn1),nn g' ho1.lt2.2 hn1⟩
 ·have ei:i=L.length:=by omega
  subst ei;have eg:(L++[Z]).getD L.length []=Z:=by simp
  rw [eg];exact ⟨g,c,by rw [<-hvs];simp,ho.kept (kk g ho.lt2.2 hv),nn g ho.lt2.2 hv⟩
end Go.Proofs.YtaijfhadecennabGreat.Oct
