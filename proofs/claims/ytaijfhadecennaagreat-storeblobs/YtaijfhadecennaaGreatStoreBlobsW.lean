import Derived.Test.YtaijfhadecennaaGreatEnr
import Derived.WalkKit
import Derived.ProofKit
import Derived.OpenShut
import Derived.ShutString
import Derived.ChangeOld
import Derived.Below
namespace Go.Proofs.YtaijfhadecennaaGreat.storeBlobs
open Go.ChangeShapes Go.WideShapes Go.ChangeAt Go.RowKit
open Go.Proofs.YtaijfhadecennaaGreat.Oct Go.Proofs.YtaijfhadecennaaGreat.Oct.Sx
set_option linter.unusedVariables false
def Inn (w:World) (v:Value) (zs:List Int):Prop:=∃a c,v=.slice a zs.length c/\Row w a c zs/\(zs=[]\/∀k,obl a k->k<w.heap.size)
theorem Inn.nil (w:World):Inn w (.slice none 0 0) []:=⟨none,0,rfl,row0 w,.inl rfl⟩
theorem Inn.of {w:World} {b o:Nat} {d:Bx} (h:BxAt' w b o d):Inn w (.slice d.a d.z.length d.c) d.z:=
 ⟨d.a,d.c,rfl,h.row,(row_lt h.row).imp id (fun hh k ⟨x,e,hx⟩=>by rw [<-hx];exact hh x e)⟩
structure BlI (w wr:World) (B s d n k c m:Nat) (vL:Value) (X:Sx.St) (pl:Nat) (r:Rp) (last:List Int):Prop where
 lv:Lv wr B s d n c X pl r [] last []
 v:LvW n X pl r []
 cc:c+32292*(k/3)<=5020+32292*k
 bel:Below w.heap.size w wr
 bsz:B<=wr.heap.size
 l:Inn w vL last
 g:X.g=(m:Int)
 gk:m<=k+1
set_option maxHeartbeats 4000000 in
set_option maxRecDepth 100000 in
theorem walk (a0:Int) (a1:Option Addr) (cap1:Nat) (l1:List Bx) (w:World) (w0: -9223372036854775808<=a0/\a0<=9223372036854775807) (w1:IsRws w a1 cap1 l1):
  Calls Tryz.prog 6 #[.int .i64 a0,.slice a1 l1.length cap1] w fun e w'=>e=.returned (.bool true)/\Below w.heap.size w w':=by
 have haw:=awake13 w;have hsm:=fun (wx:World) (hx:Below w.heap.size w wx)=>small_any a1 cap1 l1 wx (w1.below hx)
 have HW:Hid (IsRws w a1 cap1 l1):=w1;have hc0:=w1.1;have hm0:=w1.2.1;unfold maxLen at hm0;clear w0 w1;obtain ⟨n,hn⟩:∃n,l1.length=n:=⟨_,rfl⟩;have HN:Hid (l1.length=n):=hn;rw [hn] at hsm hc0 ⊢;clear hn;by_cases h8:a0<8\/120<a0
 ·go_enter Tryz.func6,Tryz.ntmps6
  rcases h8 with h8|h8
  all_goals (
   go_wp2_with (first
    |(go_at_call 9;refine haw.mono ?_;rintro e w1 ⟨rfl,hb1⟩;have H1:Hid (Below w.heap.size w w1):=hb1;clear haw hb1 hsm))
   go_ret
   exact ⟨rfl,H1.out⟩)
 cases hb:smB l1 with
 |false=>
  rw [hb] at hsm;go_enter Tryz.func6,Tryz.ntmps6
  go_wp2_with (first
   |(go_at_call 9;refine haw.mono ?_;rintro e w1 ⟨rfl,hb1⟩;have hs1:=hsm w1 hb1;have H1:Hid (Below w.heap.size w w1):=hb1;clear haw hb1 hsm)
   |(go_at_call 36;refine hs1.mono ?_;rintro e w' ⟨rfl,rfl⟩;clear hs1))
  go_ret
  exact ⟨rfl,H1.out⟩
 |true=>
  rw [hb] at hsm;obtain ⟨p,rfl⟩:∃p:Nat,a0=(p:Int):=⟨a0.toNat,by omega⟩;have hp8:8<=p:=by omega
  have hpX:p<=120:=by omega
  clear h8;have hfr:∀(wx:World),Calls Tryz.prog 10 #[.int .i64 p,.int .i64 8] wx _:=fun wx=>Fresh_yes (w:=wx) (n:=p) (N:=8) hp8 (by omega) (by decide) (by decide)
  have HSM:Hid (smB l1=true):=hb;have hn40:n<=40:=by rw [<-HN.out];exact smB_len hb
  clear hb;go_enter Tryz.func6,Tryz.ntmps6
  go_wp2_with (first
   |(go_at_call 9;refine haw.mono ?_;rintro e w1 ⟨rfl,hb1⟩;have hs1:=hsm w1 hb1;have hfr1:=hfr w1;have H1:Hid (Below w.heap.size w w1):=hb1;clear haw hb1 hsm hfr)
   |(go_at_call 36;refine hs1.mono ?_;rintro e w' ⟨rfl,rfl⟩;clear hs1)
   |(go_at_call 10;refine hfr1.mono ?_;rintro e w2 ⟨s,d,X0,r0,rfl,hf,hl,hv,hb2⟩
     have hg0:X0.g=((1:Nat):Int):=by rw [hf.g];rfl
     have H2:Hid (Lv w2 w1.heap.size s d p 20 X0 0 r0 [] [] []/\LvW p X0 0 r0 []/\Below w1.heap.size w1 w2/\X0.g=((1:Nat):Int)):=⟨hl,hv,hb2,hg0⟩;clear hfr1 hf hl hv hb2 hg0))
  obtain ⟨B,hB⟩:∃B,w1.heap.size=B:=⟨_,rfl⟩;have HB1:Hid (w.heap.size<=B/\True):=⟨by rw [<-hB];exact H1.out.size,trivial⟩
  have HI0:Hid (BlI w w2 B s d p 0 20 1 (.slice none 0 0) X0 0 r0 []):=by
   obtain ⟨h1,h2,h3,h4⟩:=H2.out;rw [hB] at h1 h3;have z1:=H1.out.size;have z2:=h3.size;exact ⟨h1,h2,by omega,H1.out.trans (h3.mono (by omega)),by omega,Inn.nil w,h4,jB _⟩
  clear H2 hB;go_loopg [5,6,7,8] n (fun gh vS vL vG i wr=>∃(k c m s d:Nat) (X:Sx.St) (pl:Nat) (r:Rp) (last:List Int),k<=n/\gh=n-k/\i=.int .i64 (k:Int)/\vS=.pointer (some ⟨s,0,none⟩)/\vG=.int .i64 (m:Int)/\m<=41/\Hid (BlI w wr B s d p k c m vL X pl r last))
  case atStart=>exact ⟨0,20,1,s,d,_,0,r0,[],jU _,rfl,rfl,rfl,rfl,by decide,HI0.out⟩
  case round=>
   clear HI0;obtain ⟨k,c,m,s,d,X,pl,r,last,hk,hgk,rfl,rfl,rfl,hm41,HI⟩:=hrel;have HGK:Hid (gk=n-k):=hgk;clear hgk;have hc9:c<=880000:=by have:=HI.out.cc;omega
   by_cases hkn:k<n
   ·obtain ⟨bo,oo,hao,hbo⟩:∃b off,a1=some ⟨b,off,none⟩/\∀i,i<l1.length->BxAt' w b (off+i) (l1.getD i noBx):=HW.out.2.2.resolve_left (fun e=>by have:=HN.out;rw [e] at this;simp at this;omega);subst hao;have hat:=hbo k (by have:=HN.out;omega);have hsz:=smB_at HSM.out (i:=k) (by have:=HN.out;omega);have hin:=Inn.of (o:=oo+k) hat;obtain ⟨z,hz⟩:∃z,l1.getD k noBx=z:=⟨_,rfl⟩;rw [hz] at hsz hin hat;have HZ:Hid (Inn w (.slice z.a z.z.length z.c) z.z/\z.z.length<=1500/\BxAt' w bo (oo+k) z):=⟨hin,hsz,hat⟩;obtain ⟨zl,hzl⟩:∃m,z.z.length=m:=⟨_,rfl⟩;have HZL:Hid (z.z.length=zl):=hzl;have hkc:k<cap1:=by omega
    obtain ⟨F0,hs0,-⟩:=HI.out.lv.sto;have hfe:=Free_any hs0;clear hbo hat hsz hin hz hzl hs0
    go_wp2_with (first
     |(go_at_call 19;refine hfe.mono ?_;rintro e w3 ⟨rfl,hb3⟩
       have hl3:=HI.out.lv.keep (hb3.mono (jB _));have hB3:Below w.heap.size w w3:=HI.out.bel.trans (hb3.mono HI.out.bel.size);have hat3:=HZ.out.2.2.below hB3;have hc4:=hat3.c0;have hst:=step_any hl3 z.a z.c z.z hat3.row ((row_lt HZ.out.2.2.row).imp id (fun hh kk ⟨x,e,hx⟩=>by have h1:=hh x e;have h2:=HB1.out.1;rw [<-hx];omega)) (jN HI.out.bsz hb3.size) HZ.out.2.1 (by have:=HI.out.cc;omega);rw [HZL.out] at hc4 hst;have H3:Hid (Below w.heap.size w w3/\B<=w3.heap.size):=⟨hB3,jN HI.out.bsz hb3.size⟩;clear hfe hb3 hl3 hB3 hat3))
    refine hst.mono ?_;clear hst;rintro e w4 ⟨E,rfl,hE⟩
    have hc5:w4.cell? ⟨bo,oo+k,none⟩=some (.slice z.a zl z.c):=by
     have h1:=HZ.out.2.2.c0;rw [HZL.out] at h1;exact ((H3.out.1.trans (hE.1.mono HB1.out.1)).cell (block_lt_of_cell h1)).trans h1
    have HBL:Hid (Below w.heap.size w w4/\B<=w4.heap.size):=⟨H3.out.1.trans (hE.1.mono HB1.out.1),jN H3.out.2 hE.1.size⟩;clear hc4;obtain ⟨-,⟨rfl,-,h6⟩|⟨rfl,X',r',h0,hv0,hg0⟩⟩:=hE.well HI.out.v.well
    ·clear hE;obtain ⟨F1,hs1,-⟩:=h6.sto;have hfe:=Free_any hs1;have H6:Hid (Lv w4 B s d p c X pl r [] last []):=h6;clear h6 hs1
     go_wp2_with (first
      |(go_at_call 19;refine hfe.mono ?_;rintro e w5 ⟨rfl,hb5⟩
        have HQ:Hid (BlI w w5 B s d p (k+1) c m _ X pl r last):=⟨H6.out.keep (hb5.mono (jB _)),HI.out.v,by have:=HI.out.cc;omega,HBL.out.1.trans (hb5.mono HBL.out.1.size),jN HBL.out.2 hb5.size,HI.out.l,HI.out.g,by have:=HI.out.gk;omega⟩;clear hfe hb5))
     go_roundg (n-(k+1))
     case rel=>exact ⟨k+1,c,m,s,d,X,pl,r,last,by omega,rfl,by go_num,rfl,rfl,hm41,HQ.out⟩
     case measure=>have:=HGK.out;omega
    ·clear hE;have hgm:X'.g=((m+1:Nat):Int):=by rw [hg0,HI.out.g];push_cast;rfl
     have HX:Hid (Lv w4 B s d p (c+20000) X' (1-pl) r' [] z.z []/\LvW p X' (1-pl) r' []/\X'.g=((m+1:Nat):Int)):=⟨h0,hv0,hgm⟩;have hmk:=HI.out.gk;obtain ⟨F1,hs1,-⟩:=h0.sto;have hsu:=Super_any hs1;unfold spV at hsu;clear h0 hv0 hg0 hgm hs1;have hrz:=HZ.out.2.2;have hf6:=field_S6;have hf0:=field_S0
     go_wp2_with (first
      |(go_at_call 13;refine hsu.mono ?_;clear hsu;rintro e w5 ⟨rfl,hb5⟩
        have hby:=lvBytes (HX.out.1.keep hb5) HX.out.2.1 (jN HBL.out.2 hb5.size) (by have:=HI.out.cc;omega);have H5:Hid (Below w.heap.size w w5/\B<=w5.heap.size):=⟨HBL.out.1.trans (hb5.mono HBL.out.1.size),jN HBL.out.2 hb5.size⟩;clear hb5)
      |(go_at_call 38;refine hby.mono ?_;clear hby;rintro e w6 ⟨g,cp,X3,rfl,hob,hbb,hl6,hv6,hb6,hX3⟩
        obtain ⟨-,hrw⟩:=hob.row' hbb;have hg3:X3.g=((m+1:Nat):Int):=by rw [hX3];exact HX.out.2.2
        have hg4:X3.S.g=(m:Int)+1:=by rw [hv6.gs,hg3];push_cast;rfl
        obtain ⟨F6,hs6,-⟩:=hl6.sto;have hsu2:=Super_any hs6;unfold spV at hsu2;rw [hg4] at hsu2;have HB6:Below w.heap.size w w6:=H5.out.1.trans (hb6.mono HB1.out.1);have H6:Hid (Lv w6 B s d p (c+20000+8192) X3 (1-pl) r' [] z.z []/\LvW p X3 (1-pl) r' []/\X3.g=((m+1:Nat):Int)/\Below w.heap.size w w6/\B<=w6.heap.size/\Row w6 g cp z.z):=⟨hl6,hv6,hg3,HB6,jN H5.out.2 hb6.size,hrw⟩;rw [HZL.out];clear hob hbb hl6 hv6 hb6 hX3 hrw hg3 hg4 hs6 HB6)
      |(go_at_call 13;refine hsu2.mono ?_;clear hsu2;rintro e w7 ⟨rfl,hb7⟩
        have hsm:=same_any g z.a cp z.c z.z z.z w7 (H6.out.2.2.2.2.2.below hb7) ((hrz.row.below H6.out.2.2.2.1).below hb7);rw [HZL.out,sameB_self] at hsm;have H7:Hid (Lv w7 B s d p (c+20000+8192) X3 (1-pl) r' [] z.z []/\Below w.heap.size w w7/\B<=w7.heap.size):=⟨H6.out.1.keep hb7,H6.out.2.2.2.1.trans (hb7.mono H6.out.2.2.2.1.size),jN H6.out.2.2.2.2.1 hb7.size⟩;clear hb7)
      |(go_at_call 23;refine hsm.mono ?_;clear hsm;rintro e w8 ⟨rfl,hb8⟩
        have hl8:=H7.out.1.keep hb8;have hdv:=hl8.device;have hB8:Below w.heap.size w w8:=H7.out.2.1.trans (hb8.mono H7.out.2.1.size);have hwh:=lvWhole hl8 H6.out.2.1 (jN H7.out.2.2 hb8.size) (by have:=HI.out.cc;omega) z.a z.c z.z (hrz.row.below hB8) ((row_lt hrz.row).imp id (fun hh kk ⟨x,e,hx⟩=>by have h1:=hh x e;have h2:=HB1.out.1;rw [<-hx];omega)) zl HZL.out true (sameB_self _);have H8:Hid (Below w.heap.size w w8/\B<=w8.heap.size):=⟨hB8,jN H7.out.2.2 hb8.size⟩;clear hb8 hl8 hB8)
      |(go_at_call 39;refine hdv.mono ?_;clear hdv;rintro e w' ⟨rfl,rfl⟩))
     refine hwh.mono ?_;clear hwh;rintro e w9 ⟨rfl,X4,hl9,hv9,hb9,hX4,-⟩;have hg9:X4.g=((m+1:Nat):Int):=by rw [hX4];exact H6.out.2.2.1
     have H9:Hid (Lv w9 B s d p (c+20000+8192+4100) X4 (1-pl) r' [] z.z []/\LvW p X4 (1-pl) r' []/\X4.g=((m+1:Nat):Int)/\Below w.heap.size w w9/\B<=w9.heap.size):=⟨hl9,hv9,hg9,H8.out.1.trans (hb9.mono HB1.out.1),jN H8.out.2 hb9.size⟩;have hdv:=hl9.device;have hcr:=hl9.crash (by have:=HI.out.cc;omega) none 0 [] (row0 w9);clear hl9 hv9 hb9 hX4 hg9;by_cases hk3:k%3=2
     ·go_wp2_with (first
       |(go_at_call 39;refine hdv.mono ?_;clear hdv;rintro e w' ⟨rfl,rfl⟩)
       |(go_at_call 40;refine hcr.mono ?_;clear hcr;rintro e w10 ⟨q,Fq,rfl,q1,q2,q3⟩
         obtain ⟨f1,f2,-⟩:=H9.out.1.fall [];have hop:=Open_oa (N:=8) (n:=p) q1 (by decide) (by decide) (fallD_n H9.out.1 []).1 (Well.new _) (fallD_n H9.out.1 []).2 (by show 0<=_;omega) f1 f2;have H10:Hid (Below w9.heap.size w9 w10/\∀k,Fq k->w9.heap.size<=k):=⟨q2,q3⟩;clear q1 q2 q3 f1 f2)
       |(go_at_call 12;refine hop.mono ?_;clear hop;rintro e w11 ⟨t,X5,rfl,hO,hX⟩
         have H11:Hid (Below w9.heap.size w9 w11/\Lv w11 B t q p 5020 X5 (1-pl) r' [] z.z []/\LvW p X5 (1-pl) r' []/\X5.P.count 0=X4.P.count 0/\X5.S=X4.S):=by
          obtain ⟨h1,h2⟩:=H10.out;obtain ⟨F',o1,o2⟩:=hO.out;obtain ⟨o3,o4⟩:=o2.below (B:=w9.heap.size) h1.size h2;obtain ⟨r1,r2,r3,r4⟩:=reopen_lv H9.out.1 H9.out.2.1 ⟨F',o1,fun k hk=>jN H9.out.2.2.2.2 (o4 k hk)⟩ hX (c':=5020) (by omega) (by rw [H9.out.2.2.1];have:=HI.out.gk;omega);exact ⟨h1.trans o3,r1,r2,r3,r4⟩
         have hold:=H9.out.1.keep H11.out.1;obtain ⟨F5,hs5,-⟩:=H11.out.2.1.sto;have hsa:=Super_any hs5;rw [H11.out.2.2.2.2] at hsa;unfold spV at hsa;have H11b:Hid (Lv w11 B s d p (c+20000+8192+4100) X4 (1-pl) r' [] z.z []):=hold;clear hO hX hold hs5)
       |(go_at_call 13;refine hsa.mono ?_;clear hsa;rintro e w12 ⟨rfl,hb12⟩
         have H12:Hid (Below w11.heap.size w11 w12):=hb12;obtain ⟨F5,hs5,-⟩:=(H11b.out.keep hb12).sto;have hsb:=Super_any hs5;unfold spV at hsb;clear hb12 hs5)
       |(go_at_call 13;refine hsb.mono ?_;clear hsb;rintro e w13 ⟨rfl,hb13⟩
         have H13:Hid (Below w11.heap.size w11 w13):=H12.out.trans (hb13.mono H12.out.size);obtain ⟨F5,hs5,-⟩:=(H11.out.2.1.keep H13.out).sto;have hfa:=Free_any hs5;rw [H11.out.2.2.2.1] at hfa;clear hb13 hs5)
       |(go_at_call 19;refine hfa.mono ?_;clear hfa;rintro e w14 ⟨rfl,hb14⟩
         have H14:Hid (Below w11.heap.size w11 w14):=H13.out.trans (hb14.mono H13.out.size);obtain ⟨F5,hs5,-⟩:=(H11b.out.keep H14.out).sto;have hfb:=Free_any hs5;clear hb14 hs5)
       |(go_at_call 19;refine hfb.mono ?_;clear hfb;rintro e w15 ⟨rfl,hb15⟩
         have hw15:Below w11.heap.size w11 w15:=H14.out.trans (hb15.mono H14.out.size);have hb9x:Below w.heap.size w w11:=H9.out.2.2.2.1.trans (H11.out.1.mono H9.out.2.2.2.1.size);have HQ:Hid (BlI w w15 B t q p (k+1) 5020 (m+1) (.slice z.a zl z.c) X5 (1-pl) r' z.z):=⟨H11.out.2.1.keep hw15,H11.out.2.2.1,by have:=HI.out.cc;omega,hb9x.trans (hw15.mono hb9x.size),jN (jN H9.out.2.2.2.2 H11.out.1.size) hw15.size,by rw [<-HZL.out];exact HZ.out.1,by rw [<-H11.out.2.2.1.gs,H11.out.2.2.2.2,H9.out.2.1.gs];exact H9.out.2.2.1,by have:=HI.out.gk;omega⟩;clear hb15 hw15 hb9x))
      go_roundg (n-(k+1))
      case rel=>exact ⟨k+1,5020,m+1,t,q,X5,1-pl,r',z.z,by omega,rfl,by go_num,rfl,by go_num,by omega,HQ.out⟩
      case measure=>have:=HGK.out;omega
     ·have HQ:Hid (BlI w w9 B s d p (k+1) (c+20000+8192+4100) (m+1) (.slice z.a zl z.c) X4 (1-pl) r' z.z):=⟨H9.out.1,H9.out.2.1,by have:=HI.out.cc;omega,H9.out.2.2.2.1,H9.out.2.2.2.2,by rw [<-HZL.out];exact HZ.out.1,H9.out.2.2.1,by have:=HI.out.gk;omega⟩;clear hdv hcr;go_wp2_with fail
      go_roundg (n-(k+1))
      case rel=>exact ⟨k+1,c+20000+8192+4100,m+1,s,d,X4,1-pl,r',z.z,by omega,rfl,by go_num,rfl,by go_num,by omega,HQ.out⟩
      case measure=>have:=HGK.out;omega
   ·have hkn:k=n:=by omega
    subst hkn;obtain ⟨al,cl,rfl,hrl,hol⟩:=HI.out.l;have hdv:=HI.out.lv.device;have hcr:=HI.out.lv.crash (by have:=HI.out.cc;omega) none 0 [] (row0 wr)
    have hst:(oaR (crashD X.D []).now).st=last:=by
     rcases (HI.out.lv.fall []).2.2 with h|⟨h,_⟩
     ·exact h
     ·exact absurd rfl h
    have HL:Hid (Row w al cl last/\(last=[]\/∀k,obl al k->k<w.heap.size)/\sameB (oaR (crashD X.D []).now).st last=true):=⟨hrl,hol,by rw [hst];exact sameB_self _⟩;obtain ⟨nl,hnl⟩:∃m,last.length=m:=⟨_,rfl⟩;have HNL:Hid (last.length=nl):=hnl;rw [hnl];clear hrl hol hst hnl
    go_wp2_with (first
     |(go_at_call 39;refine hdv.mono ?_;clear hdv;rintro e w' ⟨rfl,rfl⟩)
     |(go_at_call 40;refine hcr.mono ?_;clear hcr;rintro e w5 ⟨q,Fq,rfl,q1,q2,q3⟩
       have hB5:Below w.heap.size w w5:=HI.out.bel.trans (q2.mono HI.out.bel.size);have hwl:=crashWhole (k:=0) HI.out.lv [] q1 (by omega) (fun k hk=>jN HI.out.bsz (q3 k hk)) (jN HI.out.bsz q2.size) al cl last (HL.out.1.below hB5) (HL.out.2.1.imp id (fun hh k hk=>by have h1:=hh k hk;have h2:=HB1.out.1;omega)) nl HNL.out;rw [HL.out.2.2] at hwl;have H5:Hid (Below w.heap.size w w5/\∀k,Fq k->B<=k):=⟨hB5,fun k hk=>jN HI.out.bsz (q3 k hk)⟩;clear q1 q2 q3 hB5)
     |(go_at_call 21;refine hwl.mono ?_;clear hwl;rintro e w6 ⟨rfl,-,hc6⟩
       have H6:Hid (Below w.heap.size w w6):=H5.out.1.trans ((hc6.mono H5.out.1.size (fun _ _ e=>e)).below (fun k e=>by have h1:=H5.out.2 k e;have h2:=HB1.out.1;omega));clear hc6))
    go_ret
    exact ⟨rfl,H6.out⟩
end Go.Proofs.YtaijfhadecennaaGreat.storeBlobs
