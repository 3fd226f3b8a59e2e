/- Part of a proof. -/
import Derived.Test.YtaijfhadecennaaGreatLb
import Derived.Laws.AppendOwnNone
open Go.Proofs.Tryz
set_option maxHeartbeats 2000000
namespace Go.Proofs.YtaijfhadecennaaGreat.Oct.Sps
open Go.RowKit
theorem xor_at:∀z:Fin 256,bits .xor .u8 255 (z.val:Int)=255-(z.val:Int)/\bits .xor .u8 (z.val:Int) 255=255-(z.val:Int):=by decide+kernel
theorem xor255 {z:Int} (h0:0<=z) (h1:z<=255):bits .xor .u8 255 z=255-z:=by
 obtain ⟨n,rfl⟩:=jW h0;exact (xor_at ⟨n,by omega⟩).1
theorem xor255' {z:Int} (h0:0<=z) (h1:z<=255):bits .xor .u8 z 255=255-z:=by
 obtain ⟨n,rfl⟩:=jW h0;exact (xor_at ⟨n,by omega⟩).2
section
variable {w w':World} {s a ca b cb:Nat} {F:Nat->Prop} {S:List Int}
theorem give_any (h:Spa w s F S) (p:Int):Calls prog 61 #[.pointer (some ⟨s,0,none⟩),.int .i64 p] w fun e w'=>e=.returned (.int .i64 (gvE S p))/\∃F',Spa w' s F' (gvL S p)/\Step F F' w w':=by
 obtain ⟨a,ca,b,cb,h⟩:=h;have hm:=made_any h;have hh:=has_any h p;have hs:=state_any h p;by_cases hb:gvB S p=true
 ·obtain ⟨b1,b2⟩:2<=p/\p<(S.length:Int):=by unfold gvB at hb;simpa using hb
  obtain ⟨k,rfl⟩:=jW (show 0<=p by omega);have hk:k<S.length:=by omega
  have hin:inB S k=true:=by unfold inB;rw [jE (show (0:Int)<=k by omega),jE b2];rfl
  rw [hin] at hh;have e2:=stN_in hk;have e3:stN S k=0\/stN S k=1\/stN S k=2\/stN S k=3:=by have:=h.ok.at k;omega
  rcases e3 with e3|e3|e3|e3
  ·rw [e3] at hs e2
   have HE:Hid (gvE S k=10/\gvL S k=S):=by
    show _/\_;unfold gvE gvL;rw [if_pos hb,if_pos hb,jS,<-e2,if_neg (by omega),if_neg (by omega),if_neg (by omega),if_neg (by omega)];exact ⟨rfl,rfl⟩
   have HX:Hid (SpX w s a ca b cb F S):=h;clear h hb hin e2 e3;go_enter func61,ntmps61
   go_wp2_with (first|(go_at_call 109;refine hm.mono ?_;rintro e w' ⟨rfl,rfl⟩)|(go_at_call 111;refine hh.mono ?_;rintro e w' ⟨rfl,rfl⟩)|(go_at_call 112;refine hs.mono ?_;rintro e w1 ⟨rfl,hb1⟩))
   go_ret
   rw [HE.out.1,HE.out.2];exact ⟨rfl,F,⟨_,_,_,_,HX.out.below hb1⟩,Step.ofB hb1⟩
  ·rw [e3] at hs e2
   have HE:Hid (gvE S k=0/\gvL S k=S.set k 3):=by
    show _/\_;unfold gvE gvL;rw [if_pos hb,if_pos hb,jS,<-e2];exact ⟨rfl,rfl⟩
   have HX:Hid (SpX w s a ca b cb F S):=h;have HV:Hid (S.getD k 0=1):=e2.symm;obtain ⟨n,hn⟩:∃n,(S.length+7)/8=n:=⟨_,rfl⟩;have HN:Hid ((S.length+7)/8=n):=hn;clear h hb hin e2 e3 hn;go_enter func61,ntmps61
   go_wp2_with (first|(go_at_call 109;refine hm.mono ?_;rintro e w' ⟨rfl,rfl⟩)|(go_at_call 111;refine hh.mono ?_;rintro e w' ⟨rfl,rfl⟩)|(go_at_call 112;refine hs.mono ?_;rintro e w1 ⟨rfl,hb1⟩;have HX1:Hid (SpX w1 s a ca b cb F S):=HX.out.below hb1;have HB1:Hid (Below w.heap.size w w1):=hb1;obtain ⟨-,-,c2⟩:=HX1.out.at;rw [HN.out] at c2;clear hb1)|(go_at_call 113;have hd:=UI b ((S.length+7)/8) cb (bitL S) k w1 HX1.out.next (bitL_bys S) (by rw [bitL_len];have:=HX1.out.ok.hi;omega) (by rw [bitL_len];omega);rw [HN.out] at hd;refine hd.mono ?_;clear hd;rintro e w2 ⟨rfl,h2,h3⟩;rw [<-HN.out] at h2;have H2:Hid _:=h2;have H3:Hid _:=h3;clear h2 h3))
   go_ret
   rw [HE.out.1,HE.out.2];exact ⟨rfl,F,⟨_,_,_,_,HX1.out.drop hk (by omega) rfl (by rw [HV.out];rfl) H2.out H3.out⟩,(Step.ofB HB1.out).trans (UP HX1.out.fb H3.out)⟩
  ·rw [e3] at hs e2
   have HE:Hid (gvE S k=0/\gvL S k=S.set k 0):=by
    show _/\_;unfold gvE gvL;rw [if_pos hb,if_pos hb,jS,<-e2];exact ⟨rfl,rfl⟩
   have HX:Hid (SpX w s a ca b cb F S):=h;have HV:Hid (S.getD k 0=2):=e2.symm;obtain ⟨n,hn⟩:∃n,(S.length+7)/8=n:=⟨_,rfl⟩;have HN:Hid ((S.length+7)/8=n):=hn;clear h hb hin e2 e3 hn;go_enter func61,ntmps61
   go_wp2_with (first|(go_at_call 109;refine hm.mono ?_;rintro e w' ⟨rfl,rfl⟩)|(go_at_call 111;refine hh.mono ?_;rintro e w' ⟨rfl,rfl⟩)|(go_at_call 112;refine hs.mono ?_;rintro e w1 ⟨rfl,hb1⟩;have HX1:Hid (SpX w1 s a ca b cb F S):=HX.out.below hb1;have HB1:Hid (Below w.heap.size w w1):=hb1;obtain ⟨-,-,c2⟩:=HX1.out.at;rw [HN.out] at c2;clear hb1)|(go_at_call 113;have hd:=UI b ((S.length+7)/8) cb (bitL S) k w1 HX1.out.next (bitL_bys S) (by rw [bitL_len];have:=HX1.out.ok.hi;omega) (by rw [bitL_len];omega);rw [HN.out] at hd;refine hd.mono ?_;clear hd;rintro e w2 ⟨rfl,h2,h3⟩;rw [<-HN.out] at h2;have H2:Hid _:=h2;have H3:Hid _:=h3;clear h2 h3))
   go_ret
   rw [HE.out.1,HE.out.2];exact ⟨rfl,F,⟨_,_,_,_,HX1.out.drop hk (by omega) rfl (by rw [HV.out];rfl) H2.out H3.out⟩,(Step.ofB HB1.out).trans (UP HX1.out.fb H3.out)⟩
  ·rw [e3] at hs e2
   have HE:Hid (gvE S k=10/\gvL S k=S):=by
    show _/\_;unfold gvE gvL;rw [if_pos hb,if_pos hb,jS,<-e2,if_neg (by omega),if_neg (by omega),if_neg (by omega),if_neg (by omega)];exact ⟨rfl,rfl⟩
   have HX:Hid (SpX w s a ca b cb F S):=h;clear h hb hin e2 e3;go_enter func61,ntmps61
   go_wp2_with (first|(go_at_call 109;refine hm.mono ?_;rintro e w' ⟨rfl,rfl⟩)|(go_at_call 111;refine hh.mono ?_;rintro e w' ⟨rfl,rfl⟩)|(go_at_call 112;refine hs.mono ?_;rintro e w1 ⟨rfl,hb1⟩))
   go_ret
   rw [HE.out.1,HE.out.2];exact ⟨rfl,F,⟨_,_,_,_,HX.out.below hb1⟩,Step.ofB hb1⟩
 ·have HE:Hid (gvE S p=1/\gvL S p=S):=by
   show _/\_;unfold gvE gvL;rw [if_neg hb,if_neg hb];exact ⟨rfl,rfl⟩
  have HX:Hid (SpX w s a ca b cb F S):=h;by_cases b1:p<2
  ·clear h hb hs hh;go_enter func61,ntmps61
   go_wp2_with (go_at_call 109;refine hm.mono ?_;rintro e w' ⟨rfl,rfl⟩)
   go_ret
   rw [HE.out.1,HE.out.2];exact ⟨rfl,F,⟨_,_,_,_,HX.out⟩,Step.refl _ _⟩
  ·have hin:inB S p=false:=by
    unfold gvB at hb;unfold inB;rw [jE (show 2<=p by omega),xP] at hb;simp only [Bool.not_eq_true] at hb;rw [hb,Bool.and_false]
   rw [hin] at hh;clear h hb hs hin;go_enter func61,ntmps61
   go_wp2_with (first|(go_at_call 109;refine hm.mono ?_;rintro e w' ⟨rfl,rfl⟩)|(go_at_call 111;refine hh.mono ?_;rintro e w' ⟨rfl,rfl⟩))
   go_ret
   rw [HE.out.1,HE.out.2];exact ⟨rfl,F,⟨_,_,_,_,HX.out⟩,Step.refl _ _⟩
theorem least_any (h:SpX w s a ca b cb F S):Calls prog 110 #[.pointer (some ⟨s,0,none⟩)] w fun e w'=>∃m:Nat,e=.returned (.int .i64 m)/\Hid (LeS S m)/\Below w.heap.size w w':=by
 obtain ⟨c0,c1,c2⟩:=h.at;have hhi:=h.ok.hi;have HX:Hid (∀w',Below w.heap.size w w'->SpX w' s a ca b cb F S):=fun w' hb=>h.below hb
 have HOK:Hid (SpOk S):=h.ok;obtain ⟨n,hn⟩:∃n,(S.length+7)/8=n:=⟨_,rfl⟩;have HN:Hid ((S.length+7)/8=n):=hn;have hn1:n<=1000:=by omega
 have hsl:S.length<=5000:=by omega
 rw [hn] at c1 c2;clear h hn hhi;go_enter func110,ntmps110
 go_wp2;go_loopw [10] (fun i wr=>∃k:Nat,k<=n/\i=.int .i64 k/\Hid ((∀j,j<8*k->S.getD j 0≠0)/\Below w.heap.size w wr)) (fun i _=>n-(intOf i).toNat)
 case atStart=>exact ⟨0,jT _,rfl,(by show _/\_;exact ⟨fun j hj=>by omega,Below.refl _ _⟩)⟩
 case round=>
  obtain ⟨k,hk,rfl,HI⟩:=hrel;obtain ⟨d0,d1,d2⟩:=(HX.out wr HI.out.2).at;rw [HN.out] at d1 d2;by_cases hlt:k<n
  ·have ht:=fB (HX.out wr HI.out.2) k (by rw [HN.out];exact hlt);have HT:Hid (tkY S k=byB (fun b=>nzB (S.getD (8*k+b) 0))):=rfl;have hyb:=GR (fun b=>nzB (S.getD (8*k+b) 0));rw [<-HT.out] at hyb;obtain ⟨y,hy⟩:∃y,tkY S k=y:=⟨_,rfl⟩;rw [hy] at ht hyb HT;clear hy;by_cases hy:y=255
   ·have HA:Hid (∀j,j<8*(k+1)->S.getD j 0≠0):=fun j hj=>by
     by_cases e:j<8*k
     ·exact HI.out.1 j e
     ·have:=all_byB (HT.out.symm.trans hy) (j-8*k) (by omega);rw [show 8*k+(j-8*k)=j by omega] at this;exact nz_iff.1 this
    subst hy;clear HT hyb;go_wp2_with (go_at_call 116;refine ht.mono ?_;rintro e w2 ⟨rfl,hb2⟩;have HB2:Hid (Below w.heap.size w w2):=HI.out.2.trans (hb2.mono HI.out.2.size);clear hb2)
    go_roundw
    case rel=>exact ⟨k+1,by omega,by go_num,(by show _/\_;exact ⟨HA.out,HB2.out⟩)⟩
    case measure=>simp [intOf];omega
   ·obtain ⟨t,ht1,ht2,ht3,ht4⟩:=ntz_byB (u:=fun b=>nzB (S.getD (8*k+b) 0)) (by rw [<-HT.out];exact hy);rw [<-HT.out] at ht1;have HL:Hid (LeS S (8*k+t)):=LeS.found HOK.out (by rw [HN.out];exact hlt) ht2 ht3 ht4 HI.out.1;have hntz:=fun w'=>ntz_any (255-y) w' (by omega) (by omega)
    simp only [ht1] at hntz;have hx1:IntKind.u8.signed=false:=rfl;have hx2:IntKind.u8.max=255:=rfl;have hx3:bits .xor .u8 255 y=255-y:=xor255 hyb.1 hyb.2;have hx4:bits .xor .u8 y 255=255-y:=xor255' hyb.1 hyb.2;have hne:(y==255)=false:=by simpa using hy
    have ht8:t<8:=ht2;clear HT ht1 ht2 ht3 ht4 hy;go_wp2_with (first|(go_at_call 116;refine ht.mono ?_;rintro e w2 ⟨rfl,hb2⟩;have HB2:Hid (Below w.heap.size w w2):=HI.out.2.trans (hb2.mono HI.out.2.size);clear hb2)|(go_at_call 159;refine (hntz _).mono ?_;rintro e w' ⟨rfl,rfl⟩))
    go_ret
    exact ⟨8*k+t,(by go_num),HL.out,HB2.out⟩
  ·have hk':k=n:=by omega
   subst hk';have HL:Hid (LeS S S.length):=LeS.none HOK.out (by rw [HN.out];exact HI.out.1);go_wp2;go_ret
   exact ⟨S.length,rfl,HL.out,HI.out.2⟩
end
end Go.Proofs.YtaijfhadecennaaGreat.Oct.Sps
namespace Go.Proofs.YtaijfhadecennaaGreat.Oct.Sps
open Go.RowKit
section
variable {w w':World} {s a ca b cb:Nat} {F:Nat->Prop} {S:List Int}
theorem alloc_any (h:Spa w s F S):Calls prog 59 #[.pointer (some ⟨s,0,none⟩)] w fun e w'=>e=.returned (.tuple #[.int .i64 (alN S),.int .i64 (alE S)])/\∃F',Spa w' s F' (alL S)/\Step F F' w w':=by
 obtain ⟨a,ca,b,cb,h⟩:=h;have hm:=made_any h;have hl:=least_any h;have HX:Hid (SpX w s a ca b cb F S):=h;obtain ⟨n,hn⟩:∃n,(S.length+7)/8=n:=⟨_,rfl⟩;have HN:Hid ((S.length+7)/8=n):=hn;clear h hn;by_cases hf:frI S<S.length
 ·have HE:Hid (alN S=(frI S:Int)/\alE S=0/\alL S=S.set (frI S) 2):=by
   show _/\_/\_;unfold alN alE alL;rw [if_pos hf,if_pos hf,if_pos hf];exact ⟨rfl,rfl,rfl⟩
  have HZ:Hid (S.getD (frI S) 0=0):=kY hf;obtain ⟨k,hk⟩:∃k,frI S=k:=⟨_,rfl⟩;rw [hk] at hf HE HZ;have HK:Hid (frI S=k):=hk;have HF:Hid (k<S.length):=hf;clear hk hf;go_enter func59,ntmps59
  go_wp2_with (first|(go_at_call 109;refine hm.mono ?_;rintro e w' ⟨rfl,rfl⟩)|(go_at_call 110;refine hl.mono ?_;rintro e w1 ⟨m,rfl,HL,hb1⟩;have hmk:m=k:=(HL.out.1 (by rw [HK.out];exact HF.out)).trans HK.out;subst hmk;have HX1:Hid (SpX w1 s a ca b cb F S):=HX.out.below hb1;have HB1:Hid (Below w.heap.size w w1):=hb1;have hh:=has_any HX1.out m;rw [show inB S m=true by unfold inB;rw [jE (show (0:Int)<=m by omega),jE (show (m:Int)<S.length by have:=HF.out;omega)];rfl] at hh;obtain ⟨-,-,c2⟩:=HX1.out.at;rw [HN.out] at c2;clear hb1 HL)|(go_at_call 111;refine hh.mono ?_;clear hh;rintro e w' ⟨rfl,rfl⟩)|(go_at_call 86;have hd:=VL b ((S.length+7)/8) cb (bitL S) m w1 HX1.out.next (bitL_bys S) (by rw [bitL_len];have:=HX1.out.ok.hi;omega) (by rw [bitL_len];have:=HF.out;omega);rw [HN.out] at hd;refine hd.mono ?_;clear hd;rintro e w2 ⟨rfl,h2,h3⟩;rw [<-HN.out] at h2;have H2:Hid _:=h2;have H3:Hid _:=h3;clear h2 h3))
  go_ret2
  rw [HE.out.1,HE.out.2.1,HE.out.2.2];exact ⟨rfl,F,⟨_,_,_,_,HX1.out.take HF.out HZ.out H2.out H3.out⟩,(Step.ofB HB1.out).trans (UP HX1.out.fb H3.out)⟩
 ·have HE:Hid (alN S=0/\alE S=6/\alL S=S):=by
   show _/\_/\_;unfold alN alE alL;rw [if_neg hf,if_neg hf,if_neg hf];exact ⟨rfl,rfl,rfl⟩
  have HF:Hid (¬frI S<S.length):=hf;clear hf;go_enter func59,ntmps59
  go_wp2_with (first|(go_at_call 109;refine hm.mono ?_;rintro e w' ⟨rfl,rfl⟩)|(go_at_call 110;refine hl.mono ?_;rintro e w1 ⟨m,rfl,HL,hb1⟩;have HX1:Hid (SpX w1 s a ca b cb F S):=HX.out.below hb1;have HB1:Hid (Below w.heap.size w w1):=hb1;have hh:=has_any HX1.out m;rw [show inB S m=false by unfold inB;rw [jE (show (0:Int)<=m by omega),jH (show ¬(m:Int)<S.length by have:=HL.out.2.1 HF.out;omega)];rfl] at hh;clear hb1 HL)|(go_at_call 111;refine hh.mono ?_;clear hh;rintro e w' ⟨rfl,rfl⟩))
  go_ret2
  rw [HE.out.1,HE.out.2.1,HE.out.2.2];exact ⟨rfl,F,⟨_,_,_,_,HX1.out⟩,Step.ofB HB1.out⟩
theorem free_any (h:Spa w s F S):Calls prog 63 #[.pointer (some ⟨s,0,none⟩)] w fun e w'=>e=.returned (.int .i64 (S.count 0))/\Below w.heap.size w w':=by
 obtain ⟨a,ca,b,cb,h⟩:=h;have hm:=made_any h;obtain ⟨c0,c1,c2⟩:=h.at;have hhi:=h.ok.hi;have HX:Hid (∀w',Below w.heap.size w w'->SpX w' s a ca b cb F S):=fun w' hb=>h.below hb
 obtain ⟨n,hn⟩:∃n,(S.length+7)/8=n:=⟨_,rfl⟩;have HN:Hid ((S.length+7)/8=n):=hn;have hn1:n<=1000:=by omega
 have hsl:S.length<=5000:=by omega
 rw [hn] at c1 c2;clear h hn hhi;go_enter func63,ntmps63
 go_wp2_with (go_at_call 109;refine hm.mono ?_;rintro e w' ⟨rfl,rfl⟩)
 go_loopw [3,17] (fun v i wr=>∃k:Nat,k<=n/\i=.int .i64 k/\v=.int .i64 ((S.length:Int)-nzC S (8*k))/\Hid (Below w.heap.size w wr)) (fun _ i _=>n-(intOf i).toNat)
 case atStart=>exact ⟨0,jT _,rfl,(by simp [nzC]),Below.refl _ _⟩
 case round=>
  obtain ⟨k,hk,rfl,rfl,HI⟩:=hrel;obtain ⟨d0,d1,d2⟩:=(HX.out wr HI.out).at;rw [HN.out] at d1 d2;by_cases hlt:k<n
  ·have ht:=fB (HX.out wr HI.out) k (by rw [HN.out];exact hlt);have hyb:=GR (fun b=>nzB (S.getD (8*k+b) 0));have hon:=fun w'=>ones_any (tkY S k) w' hyb.1 hyb.2
   have HZ:Hid (nzC S (8*(k+1))=nzC S (8*k)+(Lib.onesCount (tkY S k).toNat:Int)):=nzC_8 S k;have hc1:=nzC_in S (8*k);obtain ⟨y,hy⟩:∃y,tkY S k=y:=⟨_,rfl⟩;obtain ⟨o,ho⟩:∃o,Lib.onesCount (tkY S k).toNat=o:=⟨_,rfl⟩;have ho8:o<=8:=by have:=Lib.onesCount_le8 ⟨(tkY S k).toNat,(by have:0<=tkY S k/\tkY S k<=255:=hyb;omega)⟩;rw [<-ho];exact this
   simp only [ho] at hon;rw [ho] at HZ;rw [hy] at ht hon;obtain ⟨x,hx⟩:∃x,nzC S (8*k)=x:=⟨_,rfl⟩;rw [hx] at HZ hc1 ⊢;clear hy ho hyb hx;go_wp2_with (first|(go_at_call 116;refine ht.mono ?_;rintro e w2 ⟨rfl,hb2⟩;have HB2:Hid (Below w.heap.size w w2):=HI.out.trans (hb2.mono HI.out.size);clear hb2)|(go_at_call 115;refine (hon _).mono ?_;rintro e w' ⟨rfl,rfl⟩))
   go_roundw
   case rel=>exact ⟨k+1,by omega,by go_num,(by rw [HZ.out,<-Int.sub_sub]),HB2.out⟩
   case measure=>simp [intOf];omega
  ·have hk':k=n:=by omega
   subst hk'
   have HE:Hid ((S.length:Int)-nzC S (8*k)=S.count 0):=by
    show _=_;rw [nzC_ge S (8*k) (by have:=HN.out;omega),nzC_all]
   rw [HE.out];go_wp2;go_ret
   exact ⟨rfl,HI.out⟩
theorem row_src {g c:Nat} {zs:List Int} (h:Row w (some ⟨g,0,none⟩) c zs):∀(j:Nat) (u:Value),(zs.map (Value.int .u8))[j]?=some u->w.cell? ((⟨g,0,none⟩:Addr).add j)=some u:=fun j u hj=>by
 have hlt:j<zs.length:=by
  rcases Nat.lt_or_ge j zs.length with e|e
  ·exact e
  ·rw [qD (by simpa using e)] at hj;cases hj
 have e1:=h.cells j hlt;rw [qT] at e1;rw [show (⟨g,0,none⟩:Addr).add j=⟨g,j,none⟩ by unfold Addr.add;split<;>simp_all,e1];rw [qH,jC hlt] at hj;rw [jA,jC hlt];exact hj
theorem kH (zs:List Int):∀v∈zs.map (Value.int .u8),v.oneCell'=true:=fun v hv=>by
 obtain ⟨z,_,rfl⟩:=List.mem_map.1 hv;rfl
set_option maxRecDepth 20000 in
theorem commit_any (h:Spa w s F S):Calls prog 93 #[.pointer (some ⟨s,0,none⟩)] w fun e w'=>e=.returned (.tuple #[])/\∃F',Spa w' s F' (trS 1 0 S)/\Step F F' w w':=by
 obtain ⟨a,ca,b,cb,h⟩:=h;have hm:=made_any h;obtain ⟨-,c1,c2⟩:=h.at;have HS:Hid (∀(j:Nat) (u:Value),((bitL S).map (Value.int .u8))[j]?=some u->w.cell? ((⟨b,0,none⟩:Addr).add j)=some u):=row_src h.rowB;obtain ⟨cur,q1,q2,q3⟩:=own_whole (cs:=bitL S) h.last (bitL_len S);have HL:Hid (((bitL S).map (Value.int .u8)).length=Nat.min ((S.length+7)/8) ((S.length+7)/8)):=by show _=_;rw [qU,bitL_len];exact (Nat.min_self _).symm
 have Q1:Hid (w.heap[a]?=some (.cells cur 5 (0,0))):=q1;have Q2:Hid (0+((bitL S).map (Value.int .u8)).length<=cur.size):=by show _<=_;omega
 obtain ⟨X,hX⟩:∃X,(cur.toList.take 0++((bitL S).map (Value.int .u8)++cur.toList.drop (0+((bitL S).map (Value.int .u8)).length))).toArray=X:=⟨_,rfl⟩;rw [hX] at q3;have HXX:Hid ((cur.toList.take 0++((bitL S).map (Value.int .u8)++cur.toList.drop (0+((bitL S).map (Value.int .u8)).length))).toArray=X):=hX;have Q3:Hid (Own 0 (w.setRow a X) (.slice (some ⟨a,0,none⟩) ((S.length+7)/8) ca) (bitL S)):=q3;have HX:Hid (SpX w s a ca b cb F S):=h;obtain ⟨n,hn⟩:∃n,(S.length+7)/8=n:=⟨_,rfl⟩;rw [hn] at c1 c2 HL;clear h q1 q2 q3 hn hX;go_enter func93,ntmps93
 go_wp2_with (go_at_call 109;refine hm.mono ?_;rintro e w' ⟨rfl,rfl⟩)
 go_still_tail 8,(by kernel_rfl)
 refine wpList_copy_own (by rfl) (.tmp 7) (.tmp 11) 122 122 (by rfl) 5 underlying122 size5 a 0 n ca ⟨b,0,none⟩ n cb (by rfl) (by rfl) cur 5 Q1.out ((bitL S).map (Value.int .u8)) HL.out HS.out Q2.out (kH _) ?_;rw [HXX.out];go_wp2;go_end0
 exact ⟨rfl,F,⟨a,ca,b,cb,(HX.out.last' (xS (by simp [World.setRow])) (fun g _ hg=>setRow_other w a g _ hg) (JR _ _ _) (FV HX.out.ok (by omega) (by omega)) (commit_bit HX.out.ok) (by rw [commit_las HX.out.ok];exact Q3.out)).below ⟨rfl,rfl,rfl,jB _,fun _ _=>rfl⟩⟩,Step.of (((Ch.refl _ F w).setRow (.inr HX.out.fa) _).trans ⟨rfl,rfl,rfl,jB _,fun _ _ _=>rfl⟩)⟩
theorem doubt_any (h:Spa w s F S):Calls prog 138 #[.pointer (some ⟨s,0,none⟩)] w fun e w'=>e=.returned (.tuple #[])/\∃F',Spa w' s F' (trS 1 3 S)/\Step F F' w w':=by
 obtain ⟨a,ca,b,cb,h⟩:=h;have hm:=made_any h;obtain ⟨c0,c1,c2⟩:=h.at;have hhi:=h.ok.hi;have HX:Hid (SpX w s a ca b cb F S):=h;obtain ⟨n,hn⟩:∃n,(S.length+7)/8=n:=⟨_,rfl⟩;have HN:Hid ((S.length+7)/8=n):=hn;have hn1:n<=1000:=by omega
 obtain ⟨-,-,k1,k2,-⟩:=h.last.cur;obtain ⟨-,-,k3,k4,-⟩:=h.next.cur;rw [hn] at c1 c2 k1 k3;unfold maxLen at k2 k4;have HO:Hid (Own 0 w (.slice (some ⟨a,0,none⟩) n ca) (orK S 0)):=by show Own _ _ _ _;rw [orK_zero,<-hn];exact h.last
 clear h hn hhi;go_enter func138,ntmps138
 go_wp2_with (go_at_call 109;refine hm.mono ?_;rintro e w' ⟨rfl,rfl⟩)
 go_loopw [11] (fun i wr=>∃k:Nat,k<=n/\i=.int .i64 k/\Hid (Own 0 wr (.slice (some ⟨a,0,none⟩) n ca) (orK S k)/\Ch w.heap.size (fun x=>x=a) w wr)) (fun i _=>n-(intOf i).toNat)
 case atStart=>exact ⟨0,jT _,rfl,(by show _/\_;exact ⟨HO.out,Ch.refl _ _ _⟩)⟩
 case round=>
  clear HO;obtain ⟨k,hk,rfl,HI⟩:=hrel;have hsw:∀p:Addr,p.block=s->wr.cell? p=w.cell? p:=fun p hp=>HI.out.2.cell (by rw [hp];exact HX.out.lt s HX.out.fs) (by rw [hp];exact HX.out.sa)
  have d1:=(hsw ⟨s,1,none⟩ rfl).trans c1;have d2:=(hsw ⟨s,2,none⟩ rfl).trans c2;clear hsw;by_cases hlt:k<n
  ·have hkl:k<(S.length+7)/8:=by rw [HN.out];exact hlt
   obtain ⟨-,e1,e2,e3⟩:=JL HI.out.1 k (by rw [orK_len];exact hkl);have f1:=HX.out.rowB.cells k (by rw [bitL_len];exact hkl);rw [qT] at f1;have f2:=(HI.out.2.cell (p:=⟨b,k,none⟩) (HX.out.lt b HX.out.fb) (fun e=>HX.out.ab e.symm)).trans f1;have HSu:Hid (orK S (k+1)=(orK S k).set k (bits .or .u8 ((lasL S).getD k 0) ((bitL S).getD k 0))):=orK_succ HX.out.ok hkl;have hxb:=(kN S).at k;have hyb:=(bitL_bys S).at k;rw [orK_at hkl] at e1;obtain ⟨x,hx⟩:∃x,(lasL S).getD k 0=x:=⟨_,rfl⟩;obtain ⟨y,hy⟩:∃y,(bitL S).getD k 0=y:=⟨_,rfl⟩;rw [hx] at e1 HSu hxb;rw [hy] at f2 HSu hyb;have HW:Hid (∀y:Int,Own 0 (wr.setCell ⟨a,k,none⟩ (.int .u8 y)) (.slice (some ⟨a,0,none⟩) n ca) ((orK S k).set k y)):=e3;clear hx hy e3 f1 hkl c0 c1 c2;go_wp2;go_roundw
   case rel=>exact ⟨k+1,by omega,by go_num,(by show _/\_;rw [HSu.out];exact ⟨HW.out _,(HI.out.2.setCell (p:=⟨a,k,none⟩) (.inr rfl) _)⟩)⟩
   case measure=>simp [intOf];omega
  ·have hk':k=n:=by omega
   subst hk'
   have HO:Hid (Own 0 wr (.slice (some ⟨a,0,none⟩) ((S.length+7)/8) ca) (lasL (trS 1 3 S))):=by
    show Own _ _ _ _;have:=HI.out.1;rw [<-HN.out,orK_all] at this;exact this
   go_wp2;go_end0
   exact ⟨rfl,F,⟨a,ca,b,cb,HX.out.last' HI.out.2.size (fun g hg ha=>HI.out.2.block g (HX.out.lt g hg) ha) (JR _ _ _) (FV HX.out.ok (by omega) (by omega)) (doubt_bit HX.out.ok) HO.out⟩,UP HX.out.fa HI.out.2⟩
end
end Go.Proofs.YtaijfhadecennaaGreat.Oct.Sps
namespace Go.Proofs.YtaijfhadecennaaGreat.Oct.Sps
open Go.RowKit
theorem nil_set (w:World) (a:Option Addr) (n c:Nat):(binOp .eql 122 (.slice a n c) (.slice none 0 0)).run prog w=.ok (.bool a.isNone) w:=Lib.run_eql_slice_nil w 122 5 a n c 0 0 underlying122
theorem row_srcA {w:World} {ad:Addr} {c:Nat} {zs:List Int} (h:Row w (some ad) c zs):∀(j:Nat) (u:Value),(zs.map (Value.int .u8))[j]?=some u->w.cell? (ad.add j)=some u:=fun j u hj=>by
 have hlt:j<zs.length:=by
  rcases Nat.lt_or_ge j zs.length with e|e
  ·exact e
  ·rw [qD (by simpa using e)] at hj;cases hj
 obtain ⟨b,off,e⟩:=h.some' (by omega);cases e;have e1:=h.cells j hlt;rw [show (⟨b,off,none⟩:Addr).add j=⟨b,off+j,none⟩ by simp [Addr.add],e1];rw [qH,jC hlt] at hj;rw [jA,jC hlt];exact hj
theorem JS (ad:Addr) (cap:Nat) (zs:List Int) (w:World) (h:Row w (some ad) cap zs) (hsz:zs.length<=140737488355328):
  Calls prog 114 #[.slice (some ad) zs.length cap] w fun e w'=>∃g c,e=.returned (.slice (some ⟨g,0,none⟩) zs.length c)/\Own w.heap.size w' (.slice (some ⟨g,0,none⟩) zs.length c) zs/\Below w.heap.size w w':=by
 obtain ⟨i0,hi,hz0,hz1,hz2⟩:=info_parts info5;have hm:zs.length<=maxLen:=jP h.2.1 h.2.2.1;have hr:=h.below ((Below.refl w.heap.size w).alloc (jB _) (.cells #[] 5));have ho:(w.alloc (.cells #[] 5)).ownsRow w.heap.size 5 1 (.slice (some ⟨w.heap.size,0,none⟩) 0 0) 0 []:=World.ownsRow_made w #[] 0 (jB _) (by simp [maxLen]) rfl;have HN:Hid (∀(j:Nat) (u:Value),(zs.map (Value.int .u8))[j]?=some u->(w.alloc (.cells #[] 5)).cell? (ad.add j)=some u):=row_srcA hr;clear h hr;have hq:=nil_set w (some ad) zs.length cap;go_enter func114,ntmps114
 go_wp2_with (at_builtin;refine wpList_append_own _ rfl _ _ 122 rfl w.heap.size 5 i0 (.int .u8 0) 1 1 underlying122 hi hz0 hz1 hz2 rfl (by decide) _ _ _ rfl ho ad zs.length cap (zs.map (Value.int .u8)) rfl (by simp) HN.out (kH zs) (by omega) (by omega) (by simp) ?_)
 intro v' w1 hown' hgrow hnil;have hb:Below w.heap.size w w1:=((Below.refl w.heap.size w).alloc (jB _) _).grown hgrow (by simp) (fun k hk=>by simp [Value.ownBlock] at hk;omega)
 have hv:∃g c,v'=.slice (some ⟨g,0,none⟩) zs.length c:=by
  rcases hown'.2 with ⟨e,_⟩|⟨g,c,cur,e,_⟩
  ·exact (hnil e).elim
  ·exact ⟨g,c,e⟩
 obtain ⟨g,c,hv⟩:=hv
 have HO:Hid (Own w.heap.size w1 (.slice (some ⟨g,0,none⟩) zs.length c) zs):=by
  rw [<-hv];exact hown'
 clear hown' hgrow hnil HN ho;rw [hv];go_wp2;go_ret
 exact ⟨g,c,rfl,HO.out,hb⟩
section
variable {w w':World} {s a ca b cb:Nat} {F:Nat->Prop} {S:List Int}
theorem bits_any (h:Spa w s F S):Calls prog 91 #[.pointer (some ⟨s,0,none⟩)] w fun e w'=>∃g c,e=.returned (.slice (some ⟨g,0,none⟩) ((S.length+7)/8) c)/\Own w.heap.size w' (.slice (some ⟨g,0,none⟩) ((S.length+7)/8) c) (bitL S)/\Below w.heap.size w w':=by
 obtain ⟨a,ca,b,cb,h⟩:=h;have hm:=made_any h;obtain ⟨-,-,c2⟩:=h.at;have hc:=JS ⟨b,0,none⟩ cb (bitL S) w h.rowB (by rw [bitL_len];have:=h.ok.hi;omega);rw [bitL_len] at hc;obtain ⟨n,hn⟩:∃n,(S.length+7)/8=n:=⟨_,rfl⟩;rw [hn] at c2 hc ⊢;clear h hn;go_enter func91,ntmps91
 go_wp2_with (first|(go_at_call 109;refine hm.mono ?_;rintro e w' ⟨rfl,rfl⟩)|(go_at_call 114;refine hc.mono ?_;rintro e w1 ⟨g,c,rfl,ho,hb⟩;have HO:Hid _:=ho;have HB:Hid _:=hb;clear ho hb))
 go_ret
 exact ⟨g,c,rfl,HO.out,HB.out⟩
theorem SpX.new {w1 w2:World} {g1 c1 g2 c2:Nat} (hS:SpOk S) (o1:Own w.heap.size w1 (.slice (some ⟨g1,0,none⟩) ((S.length+7)/8) c1) (lasL S)) (b1:Below w.heap.size w w1) (o2:Own w1.heap.size w2 (.slice (some ⟨g2,0,none⟩) ((S.length+7)/8) c2) (bitL S)) (b2:Below w1.heap.size w1 w2):
  Spa (w2.alloc (.cells #[.int .i64 S.length,.slice (some ⟨g1,0,none⟩) ((S.length+7)/8) c1,.slice (some ⟨g2,0,none⟩) ((S.length+7)/8) c2] 140)) w2.heap.size (fun k=>w.heap.size<=k/\k<=w2.heap.size) S/\Below w.heap.size w (w2.alloc (.cells #[.int .i64 S.length,.slice (some ⟨g1,0,none⟩) ((S.length+7)/8) c1,.slice (some ⟨g2,0,none⟩) ((S.length+7)/8) c2] 140)):=by
 have l1:=o1.lt2;have l2:=o2.lt2;have s1:=b1.size;have s2:=b2.size;have hc:=heap_alloc_new w2 (.cells #[.int .i64 S.length,.slice (some ⟨g1,0,none⟩) ((S.length+7)/8) c1,.slice (some ⟨g2,0,none⟩) ((S.length+7)/8) c2] 140);have hlt:=yR hc;have hb:Below w.heap.size w w2:=b1.trans (b2.mono s1);have bl:=(Below.refl w2.heap.size w2).alloc (jB _) (.cells #[.int .i64 S.length,.slice (some ⟨g1,0,none⟩) ((S.length+7)/8) c1,.slice (some ⟨g2,0,none⟩) ((S.length+7)/8) c2] 140);refine ⟨⟨g1,c1,g2,c2,fun k hk=>Nat.lt_of_le_of_lt hk.2 hlt,⟨by omega,jB _⟩,⟨by omega,by omega⟩,⟨by omega,by omega⟩,hS,hc,?_,?_,by omega,by omega,by omega⟩,hb.alloc hb.size _⟩
 ·exact (o1.zero.kept (b2.block g1 l1.2)).kept (bl.block g1 (by omega))
 ·exact o2.zero.kept (bl.block g2 l2.2)
theorem KW (ad:Addr) (cap:Nat) (zs:List Int) (w:World) (n:Nat) (hS:SpOk S) (hn:S.length=n) (e1:lasL S=zs) (e2:bitL S=zs) (h:Row w (some ad) cap zs):
  Calls prog 87 #[.int .i64 n,.slice (some ad) zs.length cap] w fun e w'=>∃s F,e=.returned (.pointer (some ⟨s,0,none⟩))/\Spa w' s F S/\Below w.heap.size w w'/\∀k,F k->w.heap.size<=k:=by
 have hl:zs.length=(S.length+7)/8:=by rw [<-e1,zJ]
 have hc1:=JS ad cap zs w h (by have:=hS.hi;omega);have HC2:Hid (∀w',Below w.heap.size w w'->Calls prog 114 #[.slice (some ad) zs.length cap] w' fun e w''=>∃g c,e=.returned (.slice (some ⟨g,0,none⟩) zs.length c)/\Own w'.heap.size w'' (.slice (some ⟨g,0,none⟩) zs.length c) zs/\Below w'.heap.size w' w''):=fun w' hb=>JS ad cap zs w' (h.below hb) (by have:=hS.hi;omega)
 have HS:Hid (SpOk S/\S.length=n/\lasL S=zs/\bitL S=zs/\zs.length=(S.length+7)/8):=⟨hS,hn,e1,e2,hl⟩;obtain ⟨m,hm⟩:∃m,zs.length=m:=⟨_,rfl⟩;rw [hm] at hc1 HC2 HS ⊢;clear h hS hn e1 e2 hl hm;go_enter func87,ntmps87
 go_wp2_with (first|(go_at_call 114;refine hc1.mono ?_;clear hc1;rintro e w1 ⟨g1,c1,rfl,o1,b1⟩;have O1:Hid _:=o1;have B1:Hid _:=b1;clear o1 b1)|(go_at_call 114;refine (HC2.out _ B1.out).mono ?_;clear HC2;rintro e w2 ⟨g2,c2,rfl,o2,b2⟩;have O2:Hid _:=o2;have B2:Hid _:=b2;clear o2 b2))
 go_ret
 obtain ⟨hS,hn,e1,e2,hl⟩:=HS.out;have:=SpX.new (w:=w) (w1:=w1) (w2:=w2) (g1:=g1) (c1:=c1) (g2:=g2) (c2:=c2) hS (by rw [e1,<-hl];exact O1.out) B1.out (by rw [e2,<-hl];exact O2.out) B2.out;rw [hn] at this;rw [hn] at hl;rw [<-hl] at this;exact ⟨_,_,rfl,this.1,this.2,fun k hk=>hk.1⟩
end
end Go.Proofs.YtaijfhadecennaaGreat.Oct.Sps
namespace Go.Proofs.YtaijfhadecennaaGreat.Oct.Sps
open Go.RowKit
section
variable {w w':World} {s a ca b cb:Nat} {F:Nat->Prop} {S:List Int}
theorem clone_any (h:Spa w s F S):Calls prog 62 #[.pointer (some ⟨s,0,none⟩)] w fun e w'=>∃s' F',e=.returned (.pointer (some ⟨s',0,none⟩))/\Spa w' s' F' S/\Below w.heap.size w w'/\∀k,F' k->w.heap.size<=k:=by
 obtain ⟨a,ca,b,cb,h⟩:=h;have hm:=made_any h;obtain ⟨c0,c1,c2⟩:=h.at;have ls:=h.lt s h.fs;have hlen:=h.ok.hi;have hc1:=JS ⟨a,0,none⟩ ca (lasL S) w.drew (h.rowA.below (Below.refl _ _).drew) (by rw [zJ];omega)
 have HC2:Hid (∀w',Below w.heap.size w w'->Calls prog 114 #[.slice (some ⟨b,0,none⟩) ((S.length+7)/8) cb] w' fun e w''=>∃g c,e=.returned (.slice (some ⟨g,0,none⟩) ((S.length+7)/8) c)/\Own w'.heap.size w'' (.slice (some ⟨g,0,none⟩) ((S.length+7)/8) c) (bitL S)/\Below w'.heap.size w' w''):=fun w' hb=>by
  have:=JS ⟨b,0,none⟩ cb (bitL S) w' (h.rowB.below hb) (by rw [bitL_len];omega);rw [bitL_len] at this;exact this
 rw [zJ] at hc1;have HS:Hid (SpOk S):=h.ok;obtain ⟨n,hn⟩:∃n,(S.length+7)/8=n:=⟨_,rfl⟩;have HN:Hid ((S.length+7)/8=n):=hn;rw [hn] at c1 c2 hc1 HC2;clear h hn hlen;go_enter func62,ntmps62
 go_wp2_with (go_at_call 109;refine hm.mono ?_;rintro e w' ⟨rfl,rfl⟩)
 go_region_held3 (fun w'=>w'.cell? ⟨s,0,none⟩=some (.int .i64 S.length)/\w'.cell? ⟨s,1,none⟩=some (.slice (some ⟨a,0,none⟩) n ca)/\w'.cell? ⟨s,2,none⟩=some (.slice (some ⟨b,0,none⟩) n cb)) (first|go_keep|exact ⟨by assumption,by assumption,by assumption⟩) (first|(go_at_call 114;refine hc1.mono ?_;clear hc1;rintro e w1 ⟨g1,d1,rfl,o1,b1⟩;have O1:Hid (Own w.heap.size w1 (.slice (some ⟨g1,0,none⟩) n d1) (lasL S)):=o1;have B1:Hid (Below w.heap.size w w1):=((Below.refl _ w).drew).trans b1;have t0:=(B1.out.cell (p:=⟨s,0,none⟩) ls).trans c0;have t1:=(B1.out.cell (p:=⟨s,1,none⟩) ls).trans c1;have t2:=(B1.out.cell (p:=⟨s,2,none⟩) ls).trans c2;have ls1:Hid (s<w1.heap.size):=qA ls B1.out.size;clear o1 b1)|(go_at_call 114;refine (HC2.out _ B1.out).mono ?_;clear HC2;rintro e w2 ⟨g2,d2,rfl,o2,b2⟩;have O2:Hid (Own w1.heap.size w2 (.slice (some ⟨g2,0,none⟩) n d2) (bitL S)):=o2;have B2:Hid (Below w1.heap.size w1 w2):=b2;have u0:=(b2.cell (p:=⟨s,0,none⟩) ls1.out).trans t0;have u1:=(b2.cell (p:=⟨s,1,none⟩) ls1.out).trans t1;have u2:=(b2.cell (p:=⟨s,2,none⟩) ls1.out).trans t2;clear o2 b2))
 go_wp2;go_ret
 have:=SpX.new (w:=w) (w1:=w1) (w2:=w2) (g1:=g1) (c1:=d1) (g2:=g2) (c2:=d2) HS.out (by rw [HN.out];exact O1.out) B1.out (by rw [HN.out];exact O2.out) B2.out;rw [HN.out] at this;exact ⟨_,_,rfl,this.1,this.2,fun k hk=>hk.1⟩
end
theorem las_bit {S:List Int} (h:∀i,laB (S.getD i 0)=usB (S.getD i 0)):lasL S=bitL S:=zG fun i _=>h i
theorem ldS_las {zs:List Int} {n:Nat} (hb:Bys zs) (h:ldOk zs n=true):lasL (ldS zs n)=zs:=by
 refine Eq.trans (las_bit fun i=>?_) (bitL_ldS hb h);by_cases e:i<n
 ·rw [ldS_at e];cases bitR zs i<;>rfl
 ·rw [jA,qD (by rw [XV];omega)];rfl
def twoP (n k:Nat):List Int:=bitsP (fun i=>decide (i<k)) n
theorem newS_at {n i:Nat} (hn:8<=n):(newS n).getD i 0=if i<2 then 1 else 0:=by
 by_cases e:i<n
 ·rw [<-ldK_zero [],ldK_at e];simp
 ·rw [jA,qD (by rw [JT];omega),if_neg (by omega)];rfl
theorem newS_bit {n:Nat} (hn:8<=n):bitL (newS n)=twoP n 2:=by
 unfold bitL twoP;rw [JT];refine zG fun i _=>?_
 rw [newS_at hn];by_cases e:i<2<;>simp [e,usB]
theorem newS_las {n:Nat} (hn:8<=n):lasL (newS n)=twoP n 2:=by
 refine Eq.trans (las_bit fun i=>?_) (newS_bit hn);rw [newS_at hn];by_cases e:i<2<;>simp [e,usB,laB]
theorem VG (n k:Nat):(twoP n k).length=(n+7)/8:=yY _ _
theorem twoP_bys (n k:Nat):Bys (twoP n k):=zZ _ _
theorem twoP_zero (n:Nat):twoP n 0=List.replicate ((n+7)/8) 0:=by
 rw [<-ZO];exact zG fun i _=>by simp
theorem twoP_succ {n k:Nat} (hk:k<n):(twoP n k).set (k/8) (bits .or .u8 ((twoP n k).getD (k/8) 0) (2^(k%8)%256))=twoP n (k+1):=
 YP hk (by simp) fun i hi=>decide_eq_decide.2 (by omega)
theorem new_no (n:Int) (w:World) (h:¬(8<=n/\n<=4096)):Calls prog 47 #[.int .i64 n] w fun e w'=>e=.returned (.tuple #[.pointer none,.int .i64 1])/\Below w.heap.size w w':=by
 have ha:=allowed_any n w;rw [show alwB n=false from jH h] at ha;clear h;go_enter func47,ntmps47
 go_wp2_with (go_at_call 84;refine ha.mono ?_;rintro e w' ⟨rfl,rfl⟩)
 go_ret2
 exact ⟨rfl,Below.refl _ _⟩
set_option maxRecDepth 20000 in
theorem new_yes (n:Nat) (w:World) (h8:8<=n) (h4:n<=4096):Calls prog 47 #[.int .i64 n] w fun e w'=>∃s F,e=.returned (.tuple #[.pointer (some ⟨s,0,none⟩),.int .i64 0])/\Spa w' s F (newS n)/\Below w.heap.size w w'/\∀k,F k->w.heap.size<=k:=by
 obtain ⟨i0,hi0,hz0,hz1,hz2⟩:=info_parts info5;have ha:=allowed_any n w;rw [show alwB n=true from jE ⟨by omega,by omega⟩] at ha;have hr:=room_any n w h4;obtain ⟨nb,hnb⟩:∃nb,(n+7)/8=nb:=⟨_,rfl⟩;have HN:Hid ((n+7)/8=nb):=hnb;have H8:Hid (8<=n/\n<=4096):=⟨h8,h4⟩;have hm:nb<=maxLen:=by unfold maxLen;omega
 have hnb1:nb<=513:=by omega
 rw [hnb] at hr;clear hnb;go_enter func47,ntmps47
 go_wp2_with (first|(go_at_call 84;refine ha.mono ?_;rintro e w' ⟨rfl,rfl⟩)|(go_at_call 85;refine hr.mono ?_;rintro e w' ⟨rfl,rfl⟩)|(at_make;refine wpList_make_full _ rfl _ _ 122 rfl w.heap.size 5 i0 (.int .u8 0) 1 underlying122 hi0 hz0 hz1 .i64 .i64 _ _ nb rfl rfl rfl rfl (by rw [hz2];omega) hm (jB _) ?_;intro w1 hown1 hgrow1;have HO:Hid (Own 0 w1 (.slice (some ⟨w.heap.size,0,none⟩) nb nb) (twoP n 0)):=(by show Own _ _ _ _;rw [twoP_zero,HN.out];exact (JJ hown1).zero);have HB:Hid (Below w.heap.size w w1):=(Below.refl _ w).grown hgrow1 (jB _) (by simp);have HLT:Hid (w.heap.size<w1.heap.size):=(JJ hown1).lt2.2;clear hown1 hgrow1))
 go_loopw [12] (fun i wr=>∃k:Nat,k<=2/\i=.int .i64 k/\Hid (Own 0 wr (.slice (some ⟨w.heap.size,0,none⟩) nb nb) (twoP n k)/\Below w.heap.size w wr)) (fun i _=>2-(intOf i).toNat)
 case atStart=>exact ⟨0,jT _,rfl,(by show _/\_;exact ⟨HO.out,HB.out⟩)⟩
 case round=>
  clear HO HB;obtain ⟨k,hk,rfl,HI⟩:=hrel;by_cases hlt:k<2
  ·have hd:=VL w.heap.size nb nb (twoP n k) k wr HI.out.1 (twoP_bys n k) (by rw [VG];omega) (by rw [VG];omega);rw [twoP_succ (show k<n by omega)] at hd;go_wp2_with (go_at_call 86;refine hd.mono ?_;clear hd;rintro e w2 ⟨rfl,h2,h3⟩;have HJ:Hid (Own 0 w2 (.slice (some ⟨w.heap.size,0,none⟩) nb nb) (twoP n (k+1))/\Below w.heap.size w w2):=⟨h2,HI.out.2.trans ((h3.mono HI.out.2.size (fun _ _ e=>e)).below (fun _ e=>xS e.symm))⟩;clear h2 h3)
   go_roundw
   case rel=>exact ⟨k+1,by omega,by go_num,HJ.out⟩
   case measure=>simp [intOf];omega
  ·have hk':k=2:=by omega
   subst hk';have hu:=KW ⟨w.heap.size,0,none⟩ nb (twoP n 2) wr n (newS_ok H8.out.1 H8.out.2) (JT n) (newS_las H8.out.1) (newS_bit H8.out.1) (HI.out.1.row' (twoP_bys n 2)).2;rw [VG,HN.out] at hu;go_wp2_with (go_at_call 87;refine hu.mono ?_;clear hu;rintro e w2 ⟨s,F,rfl,h2,h3,h4⟩;have H2:Hid _:=h2;have HB:Hid (Below w.heap.size w w2):=HI.out.2.trans (h3.mono HI.out.2.size);have HF:Hid (∀k,F k->w.heap.size<=k):=(fun k hk=>jP HI.out.2.size (h4 k hk));clear h2 h3 h4)
   go_ret2
   exact ⟨_,_,rfl,H2.out,HB.out,HF.out⟩
theorem whole_any (n:Nat) (ad:Option Addr) (cap:Nat) (zs:List Int) (w:World) (hr:Row w ad cap zs) (hl:zs.length<=1000000) (h8:8<=n) (h4:n<=4096):
  Calls prog 101 #[.int .i64 n,.slice ad zs.length cap] w fun e w'=>e=.returned (.bool (ldOk zs n))/\w=w':=by
 have hro:=room_any n w h4;by_cases hlen:zs.length=(n+7)/8
 ·have HH:Hid (∀k,k<8*zs.length->Calls prog 154 #[.slice ad zs.length cap,.int .i64 k] w fun e w'=>e=.returned (.bool (bitR zs k))/\w=w'):=fun k hk=>ZG ad cap zs k w hr hl (by omega)
  have HLN:Hid (zs.length=(n+7)/8):=hlen;rw [<-hlen] at hro;obtain ⟨m,hm⟩:∃m,zs.length=m:=⟨_,rfl⟩;have HM:Hid (zs.length=m):=hm;have hm1:m<=1000:=by omega
  obtain ⟨M,hM⟩:∃M,8*m=M:=⟨_,rfl⟩;have hMi:(8:Int)*(m:Int)=(M:Int):=by omega
  have hM1:M<=8000:=by omega
  have hm2:n<=M:=by omega
  have HMM:Hid (8*m=M):=hM;rw [hm] at hro HH ⊢;rw [hM] at HH;have H8:Hid (8<=n):=h8;clear hlen hm hr hl hM;go_enter func101,ntmps101
  go_wp2_with (go_at_call 85;refine hro.mono ?_;rintro e w' ⟨rfl,rfl⟩)
  go_loopw [12] (fun i wr=>∃k:Nat,k<=2/\i=.int .i64 k/\w=wr/\Hid (∀j,j<k->bitR zs j=true)) (fun i _=>2-(intOf i).toNat)
  case atStart=>exact ⟨0,jT _,rfl,rfl,fun j hj=>by omega⟩
  case round=>
   obtain ⟨k,hk,rfl,rfl,HI⟩:=hrel;by_cases hlt:k<2
   ·have hh:=HH.out k (by omega);cases hb:bitR zs k with
    |false=>
     rw [hb] at hh;have HE:Hid (ldOk zs n=false):=ldOk_no (k:=k) (by rw [HM.out];have:=HMM.out;omega) (by unfold ldF;rw [hb,jE hlt];rfl);clear hb;go_wp2_with (go_at_call 154;refine hh.mono ?_;clear hh;rintro e w' ⟨rfl,rfl⟩)
     go_ret
     rw [HE.out];exact ⟨rfl,rfl⟩
    |true=>
     rw [hb] at hh;have HB:Hid (bitR zs k=true):=hb;clear hb;go_wp2_with (go_at_call 154;refine hh.mono ?_;clear hh;rintro e w' ⟨rfl,rfl⟩)
     go_roundw
     case rel=>exact ⟨k+1,by omega,by go_num,trivial,fun j hj=>by rcases Nat.lt_succ_iff_lt_or_eq.1 hj with h|rfl;exact HI.out j h;exact HB.out⟩
     case measure=>simp [intOf];omega
   ·have hk':k=2:=by omega
    subst hk';rw [show ((2:Nat):Int)=2 from rfl];clear hk hlt;go_wp2;go_loopw [6] (fun i wx=>∃k:Nat,n<=k/\k<=M/\i=.int .i64 k/\w=wx/\Hid (∀j,n<=j->j<k->bitR zs j=false)) (fun i _=>M-(intOf i).toNat)
    case atStart=>exact ⟨n,jB _,hm2,rfl,rfl,fun j h1 h2=>by omega⟩
    case round=>
     obtain ⟨k,hk1,hk2,rfl,rfl,HJ⟩:=hrel;by_cases hlt:k<M
     ·have hh:=HH.out k hlt;cases hb:bitR zs k with
      |true=>
       rw [hb] at hh;have HE:Hid (ldOk zs n=false):=ldOk_no (k:=k) (by rw [HM.out];have:=HMM.out;omega) (by unfold ldF;rw [hb,jE hk1];simp);clear hb;go_wp2_with (go_at_call 154;refine hh.mono ?_;clear hh;rintro e w' ⟨rfl,rfl⟩)
       go_ret
       rw [HE.out];exact ⟨rfl,rfl⟩
      |false=>
       rw [hb] at hh;have HB:Hid (bitR zs k=false):=hb;clear hb;go_wp2_with (go_at_call 154;refine hh.mono ?_;clear hh;rintro e w' ⟨rfl,rfl⟩)
       go_roundw
       case rel=>exact ⟨k+1,by omega,by omega,by go_num,trivial,fun j h1 hj=>by rcases Nat.lt_succ_iff_lt_or_eq.1 hj with h|rfl;exact HJ.out j h1 h;exact HB.out⟩
       case measure=>simp [intOf];omega
     ·have HE:Hid (ldOk zs n=true):=ldOk_yes HLN.out fun j hj=>by
       rw [HM.out] at hj;have hj2:=HMM.out;unfold ldF;by_cases e2:j<2
       ·rw [HI.out j e2,jH (show ¬n<=j by have:=H8.out;omega)];simp
       ·by_cases e3:n<=j
        ·rw [HJ.out j e3 (by omega)];simp [e2]
        ·simp [e2,e3]
      go_wp2;go_ret
      rw [HE.out];exact ⟨rfl,rfl⟩
 ·have HE:Hid (ldOk zs n=false):=by show _=_;unfold ldOk;rw [jH hlen];rfl
  have hne:((zs.length:Int)==(((n+7)/8:Nat):Int))=false:=by simp;omega
  obtain ⟨nb,hnb⟩:∃nb,(n+7)/8=nb:=⟨_,rfl⟩;rw [hnb] at hro hne;clear hlen hnb hr;go_enter func101,ntmps101
  go_wp2_with (go_at_call 85;refine hro.mono ?_;rintro e w' ⟨rfl,rfl⟩)
  go_ret
  rw [HE.out];exact ⟨rfl,rfl⟩
theorem load_any (n:Int) (ad:Option Addr) (cap:Nat) (zs:List Int) (w:World) (hr:Row w ad cap zs) (hl:zs.length<=1000000):
  Calls prog 53 #[.int .i64 n,.slice ad zs.length cap] w (LdS Spa w zs n):=by
 have ha:=allowed_any n w;by_cases hn:8<=n/\n<=4096
 ·rw [show alwB n=true from jE hn] at ha;obtain ⟨N,rfl⟩:=jW (show 0<=n by omega);have hw:=whole_any N ad cap zs w hr hl (by omega) (by omega);cases hb:ldOk zs N with
  |false=>
   rw [hb] at hw;have HE:Hid (ldE zs N=4):=by show _=_;unfold ldE;rw [if_pos hn,jS,hb];rfl
   clear hb hn hr;go_enter func53,ntmps53
   go_wp2_with (first|(go_at_call 84;refine ha.mono ?_;rintro e w' ⟨rfl,rfl⟩)|(go_at_call 101;refine hw.mono ?_;rintro e w' ⟨rfl,rfl⟩))
   go_ret2
   exact ⟨Below.refl _ _,.inl (by rw [HE.out];exact ⟨by omega,rfl⟩)⟩
  |true=>
   rw [hb] at hw;have HE:Hid (ldE zs N=0):=by show _=_;unfold ldE;rw [if_pos hn,jS,hb];rfl
   have hzl:zs.length=(N+7)/8:=by unfold ldOk at hb;rw [jO] at hb;exact jZ hb.1
   obtain ⟨b,off,rfl⟩:=hr.some' (by omega);have hu:=KW ⟨b,off,none⟩ cap zs w N (ldS_ok zs (by omega) (by omega)) (XV zs N) (ldS_las hr.1 hb) (bitL_ldS hr.1 hb) hr;clear hb hn hr hzl;go_enter func53,ntmps53
   go_wp2_with (first|(go_at_call 84;refine ha.mono ?_;rintro e w' ⟨rfl,rfl⟩)|(go_at_call 101;refine hw.mono ?_;rintro e w' ⟨rfl,rfl⟩)|(go_at_call 87;refine hu.mono ?_;clear hu;rintro e w2 ⟨s,F,rfl,h2,h3,h4⟩;have H2:Hid _:=h2;have HB:Hid _:=h3;have HF:Hid _:=h4;clear h2 h3 h4))
   go_ret2
   exact ⟨HB.out,.inr ⟨HE.out,_,_,rfl,by rw [jS];exact H2.out,HF.out⟩⟩
 ·rw [show alwB n=false from jH hn] at ha;have HE:Hid (ldE zs n=1):=if_neg hn;clear hn hr;go_enter func53,ntmps53
  go_wp2_with (go_at_call 84;refine ha.mono ?_;rintro e w' ⟨rfl,rfl⟩)
  go_ret2
  exact ⟨Below.refl _ _,.inl (by rw [HE.out];exact ⟨by omega,rfl⟩)⟩
end Go.Proofs.YtaijfhadecennaaGreat.Oct.Sps
