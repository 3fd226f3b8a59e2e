import Derived.Test.YtaijfhadecennaaGreatEnr
import Derived.WalkKit
import Derived.ProofKit
import Derived.OpenShut
import Derived.ShutString
import Derived.ChangeOld
import Derived.Below
namespace Go.Proofs.YtaijfhadecennaaGreat.storeCrashes
open Go.ChangeShapes Go.WideShapes Go.ChangeAt Go.RowKit
open Go.Proofs.YtaijfhadecennaaGreat.Oct Go.Proofs.YtaijfhadecennaaGreat.Oct.Sx
set_option linter.unusedVariables false
theorem and127 (n:Int):0<=bits .and .i64 n 127/\bits .and .i64 n 127<=127:=by
 have h:bits .and .i64 n 127=IntKind.i64.wrap ((BitVec.ofInt 64 n &&& BitVec.ofInt 64 127).toNat:Int):=rfl
 have h2:(BitVec.ofInt 64 n &&& BitVec.ofInt 64 127).toNat<=127:=by
  rw [BitVec.toNat_and];exact Nat.and_le_right
 rw [h,IntKind.wrap_i64];omega
def Inn (w:World) (v:Value) (zs:List Int):Prop:=∃a c,v=.slice a zs.length c/\Row w a c zs/\(zs=[]\/∀k,obl a k->k<w.heap.size)
theorem Inn.nil (w:World):Inn w (.slice none 0 0) []:=⟨none,0,rfl,row0 w,.inl rfl⟩
theorem Inn.of {w:World} {b o:Nat} {d:Bx} (h:BxAt' w b o d):Inn w (.slice d.a d.z.length d.c) d.z:=
 ⟨d.a,d.c,rfl,h.row,(row_lt h.row).imp id (fun hh k ⟨x,e,hx⟩=>by rw [<-hx];exact hh x e)⟩
structure CrI (w wr:World) (B s d k:Nat) (c:Nat) (vL vN:Value) (bg:Bool) (X:Sx.St) (pl:Nat) (r:Rp) (T:List (Sp × Rp)) (last next:List Int):Prop where
 lv:Lv wr B s d 60 c X pl r T last [next]
 cc:c<=20+20000*k
 out:X.D.out=[]
 bel:Below w.heap.size w wr
 bsz:B<=wr.heap.size
 l:Inn w vL last
 n:Inn w vN next
 al:T=[]\/(bg=true/\X.D.dead=true)
set_option maxHeartbeats 4000000 in
set_option maxRecDepth 100000 in
theorem walk (a0:Option Addr) (cap0:Nat) (l0:List Bx) (a1:Int) (a2:Option Addr) (cap2:Nat) (l2:List Int) (w:World) (w0:IsRws w a0 cap0 l0) (w1: -9223372036854775808<=a1/\a1<=9223372036854775807) (w2:Row w a2 cap2 l2) (n2:a2=none->cap2=0):
  Calls Tryz.prog 7 #[.slice a0 l0.length cap0,.int .i64 a1,.slice a2 l2.length cap2] w fun e w'=>e=.returned (.bool true)/\Below w.heap.size w w':=by
 have haw:=awake13 w;have hsm:=fun (wx:World) (hx:Below w.heap.size w wx)=>small_any a0 cap0 l0 wx (w0.below hx)
 have hfr:∀(wx:World),Calls Tryz.prog 10 #[.int .i64 60,.int .i64 8] wx _:=fun wx=>Fresh_yes (w:=wx) (n:=60) (N:=8) (by decide) (by decide) (by decide) (by decide)
 have h27:=and127 a1;obtain ⟨f,hf⟩:∃f,bits .and .i64 a1 127=f:=⟨_,rfl⟩;rw [hf] at h27;have HW:Hid (IsRws w a0 cap0 l0/\Row w a2 cap2 l2):=⟨w0,w2⟩;have hc0:=w0.1;have hm0:=w0.2.1;have hc2:=w2.2.1;have hm2:=w2.2.2.1;unfold maxLen at hm0 hm2;clear w0 w1 w2 n2;obtain ⟨n,hn⟩:∃n,l0.length=n:=⟨_,rfl⟩;obtain ⟨n2,hn2⟩:∃n,l2.length=n:=⟨_,rfl⟩;have HN:Hid (l0.length=n/\l2.length=n2):=⟨hn,hn2⟩;rw [hn] at hsm hc0 ⊢;rw [hn2] at hc2 ⊢;clear hn hn2;cases hb:smB l0 with
 |false=>
  rw [hb] at hsm;go_enter Tryz.func7,Tryz.ntmps7
  go_wp2_with (first
   |(go_at_call 9;refine haw.mono ?_;rintro e w1 ⟨rfl,hb1⟩;have hs1:=hsm w1 hb1;have H1:Hid (Below w.heap.size w w1):=hb1;clear haw hb1 hsm)
   |(go_at_call 36;refine hs1.mono ?_;rintro e w' ⟨rfl,rfl⟩;clear hs1))
  go_ret
  exact ⟨rfl,H1.out⟩
 |true=>
  rw [hb] at hsm;by_cases h3:300<n2
  ·go_enter Tryz.func7,Tryz.ntmps7
   go_wp2_with (first
    |(go_at_call 9;refine haw.mono ?_;rintro e w1 ⟨rfl,hb1⟩;have hs1:=hsm w1 hb1;have H1:Hid (Below w.heap.size w w1):=hb1;clear haw hb1 hsm)
    |(go_at_call 36;refine hs1.mono ?_;rintro e w' ⟨rfl,rfl⟩;clear hs1))
   go_ret
   exact ⟨rfl,H1.out⟩
  ·have HSM:Hid (smB l0=true):=hb;have hn40:n<=40:=by rw [<-HN.out.1];exact smB_len hb
   clear hb;go_enter Tryz.func7,Tryz.ntmps7
   go_wp2_with (first
    |(go_at_call 9;refine haw.mono ?_;rintro e w1 ⟨rfl,hb1⟩;have hs1:=hsm w1 hb1;have hfr1:=hfr w1;have H1:Hid (Below w.heap.size w w1):=hb1;clear haw hb1 hsm hfr)
    |(go_at_call 36;refine hs1.mono ?_;rintro e w' ⟨rfl,rfl⟩;clear hs1)
    |(go_at_call 10;refine hfr1.mono ?_;rintro e w2 ⟨s,d,X0,r0,rfl,-,hl,hv,hb2⟩
      have hdv:=hl.device;have hfu:=hl.fuse hb2.size f (by omega) (by omega);have H2:Hid (Below w1.heap.size w1 w2/\X0.D.out=[]):=⟨hb2,hv.well.out⟩;clear hfr1 hl hv hb2)
    |(go_at_call 39;refine hdv.mono ?_;rintro e w' ⟨rfl,rfl⟩;clear hdv)
    |(go_at_call 41;refine hfu.mono ?_;rintro e w3 ⟨rfl,hl3,hb3⟩
      have H3:Hid (Lv w3 w1.heap.size s d 60 20 {X0 with D:=fuseD X0.D f} 0 r0 [] [] []/\Below w1.heap.size w2 w3):=⟨hl3,hb3⟩;clear hfu hl3 hb3))
   obtain ⟨B,hB⟩:∃B,w1.heap.size=B:=⟨_,rfl⟩;have HB1:Hid (w.heap.size<=B):=by rw [<-hB];exact H1.out.size
   have HB1:Hid (w.heap.size<=B/\True):=⟨HB1.out,trivial⟩
   have HI0:Hid (CrI w w3 B s d 0 20 (.slice none 0 0) (.slice none 0 0) false {X0 with D:=fuseD X0.D f} 0 r0 [] [] []):=by
    obtain ⟨h1,h2⟩:=H3.out;obtain ⟨h3,h4⟩:=H2.out;rw [hB] at h1 h2;have z1:=H1.out.size;have z2:=h3.size;have z3:=h2.size;have ho:(fuseD X0.D f).out=X0.D.out:=by unfold fuseD;split<;>rfl
    exact ⟨⟨h1.sto,h1.i,h1.pl,h1.dn,h1.ops,h1.since,h1.g,h1.st,h1.rr,fun y hy=>by cases hy⟩,by omega,ho.trans h4,H1.out.trans ((h3.mono z1).trans (h2.mono (by omega))),by omega,Inn.nil w,Inn.nil w,.inl rfl⟩
   clear H2 H3 hB;go_loopg [8,9,10,11] n (fun gh vL vN vb i wr=>∃(k c:Nat) (bg:Bool) (X:Sx.St) (pl:Nat) (r:Rp) (T:List (Sp × Rp)) (last next:List Int),k<=n/\gh=n-k/\i=.int .i64 (k:Int)/\vb=.bool bg/\Hid (CrI w wr B s d k c vL vN bg X pl r T last next))
   case atStart=>exact ⟨0,20,false,_,0,r0,[],[],[],jU _,rfl,rfl,rfl,HI0.out⟩
   case round=>
    clear HI0;obtain ⟨k,c,bg,X,pl,r,T,last,next,hk,hgk,rfl,rfl,HI⟩:=hrel;have HGK:Hid (gk=n-k):=hgk;clear hgk;have hc9:c<=810000:=by have:=HI.out.cc;omega
    by_cases hdz:X.D.dead=true
    ·have hdd:X.D.dead=true:=hdz;clear hdz;have hlx:k<n\/k=n:=by omega
     cases bg with
     |false=>
      obtain ⟨al,cl,rfl,hrl,hol⟩:=HI.out.l;obtain ⟨an,cn,rfl,hrn,hon⟩:=HI.out.n;have hdv:=HI.out.lv.device;have hde0:=HI.out.lv.dead;rw [hdd] at hde0;have hcr:=HI.out.lv.crash (by have:=HI.out.cc;omega) a2 cap2 l2 (HW.out.2.below HI.out.bel);rw [HN.out.2] at hcr;have HL:Hid (Lv wr B s d 60 c X pl r T last [next]/\Below w.heap.size w wr/\Row w al cl last/\Row w an cn next/\(last=[]\/∀k,obl al k->k<w.heap.size)/\(next=[]\/∀k,obl an k->k<w.heap.size)/\w.heap.size<=B/\B<=wr.heap.size):=⟨HI.out.lv,HI.out.bel,hrl,hrn,hol,hon,HB1.out.1,HI.out.bsz⟩;obtain ⟨nl,hnl⟩:∃m,last.length=m:=⟨_,rfl⟩;obtain ⟨nn,hnn⟩:∃m,next.length=m:=⟨_,rfl⟩;have HNN:Hid (last.length=nl/\next.length=nn):=⟨hnl,hnn⟩;have HD:Hid (X.D.dead=true):=hdd;rw [hnl,hnn]
      have hst:(oaR (crashD X.D l2).now).st=last:=by
       rcases (HI.out.lv.fall l2).2.2 with h|⟨h,_⟩
       ·exact h
       ·rcases HI.out.al with h2|⟨h2,h3⟩
        ·exact absurd h2 h
        ·cases h2
      have HST:Hid (sameB (oaR (crashD X.D l2).now).st last=true):=by
       show sameB _ _=true;rw [hst];exact sameB_self _
      clear hst;clear hrl hrn hol hon hnl hnn HI hdd;rcases hlx with hlt|rfl
      all_goals (
       go_wp2_with (first
        |(go_at_call 39;refine hdv.mono ?_;rintro e w' ⟨rfl,rfl⟩)
        |(go_at_call 42;refine hde0.mono ?_;rintro e w' ⟨rfl,rfl⟩)
        |(go_at_call 40;refine hcr.mono ?_;rintro e w5 ⟨q,Fq,rfl,q1,q2,q3⟩
          obtain ⟨k1,k2,k3,k4,k5,k6,k7,k8⟩:=HL.out;have hl5:=k1.keep q2;have hdv2:=hl5.device;have hde:=hl5.dead;rw [HD.out] at hde;have hz2:=q2.size;have hF5:∀k,Fq k->B<=k:=fun k hk=>jN k8 (q3 k hk)
          have hb5:Below w.heap.size w w5:=k2.trans (q2.mono k2.size);have hcr2:=crash_any (D:=rdK (crashD X.D l2) 0) q1 (by show 0<=_;omega) none 0 [] (row0 w5);rw [crash_two X.D l2 0] at hcr2;have H5:Hid (Below w.heap.size w w5/\(∀k,Fq k->B<=k)/\B<=w5.heap.size/\Dev w5 q Fq (rdK (crashD X.D l2) 0)):=⟨hb5,hF5,by omega,q1⟩;clear hcr q1 q2 q3 hl5 hz2 hF5 hb5 k1 k2 k3 k4 k5 k6 k7 k8)
        |(go_at_call 39;refine hdv2.mono ?_;rintro e w' ⟨rfl,rfl⟩;clear hdv2)
        |(go_at_call 42;refine hde.mono ?_;rintro e w' ⟨rfl,rfl⟩;clear hde)
        |(go_at_call 40;refine hcr2.mono ?_;rintro e w7 ⟨q2,Fr,rfl,g1,g2,g3⟩
          obtain ⟨f1,f2,_⟩:=HL.out.1.fall l2;have hop:=Open_oa (N:=9) (n:=60) g1 (by decide) (by decide) (fallD_n HL.out.1 l2).1 (Well.new _) (fallD_n HL.out.1 l2).2 (by show 0<=_;omega) f1 f2;have H7:Hid (Below w5.heap.size w5 w7/\∀k,Fr k->w5.heap.size<=k):=⟨g2,g3⟩;clear hcr2 g1 g2 g3 f1 f2)
        |(go_at_call 12;refine hop.mono ?_;rintro e w8 ⟨t,X2,rfl,hO,-⟩
          have H8:Hid (Below w5.heap.size w5 w8):=by
           obtain ⟨F',_,o2⟩:=hO.out;have h1:=H7.out.1;exact h1.trans ((o2.below (B:=w5.heap.size) h1.size H7.out.2).1)
          have h8z:=H8.out.size;have hB8:Below w.heap.size w w8:=(H5.out.1).trans (H8.out.mono (H5.out.1).size);have hwl:=crashWhole HL.out.1 l2 ((H5.out.2.2.2).below H8.out) (by omega) H5.out.2.1 (by have:=H5.out.2.2.1;omega) al cl last (HL.out.2.2.1.below hB8) (HL.out.2.2.2.2.1.imp id (fun hh k hk=>by have h1:=hh k hk;have h2:=HL.out.2.2.2.2.2.2.1;omega)) nl HNN.out.1;rw [HST.out] at hwl;have H8B:Hid (Below w.heap.size w w8):=hB8;clear hop hO hB8 h8z)
        |(go_at_call 21;refine hwl.mono ?_;rintro e w9 ⟨rfl,-,hc9⟩
          have H9:Hid (Below w.heap.size w w9):=H8B.out.trans ((hc9.mono H8B.out.size (fun _ _ e=>e)).below (fun k e=>by have h1:=H5.out.2.1 k e;have h2:=HL.out.2.2.2.2.2.2.1;omega));clear hwl hc9))
       go_ret
       exact ⟨rfl,H9.out⟩)
     |true=>
      obtain ⟨al,cl,rfl,hrl,hol⟩:=HI.out.l;obtain ⟨an,cn,rfl,hrn,hon⟩:=HI.out.n;have hdv:=HI.out.lv.device;have hde0:=HI.out.lv.dead;rw [hdd] at hde0;have hcr:=HI.out.lv.crash (by have:=HI.out.cc;omega) a2 cap2 l2 (HW.out.2.below HI.out.bel);rw [HN.out.2] at hcr;have HL:Hid (Lv wr B s d 60 c X pl r T last [next]/\Below w.heap.size w wr/\Row w al cl last/\Row w an cn next/\(last=[]\/∀k,obl al k->k<w.heap.size)/\(next=[]\/∀k,obl an k->k<w.heap.size)/\w.heap.size<=B/\B<=wr.heap.size):=⟨HI.out.lv,HI.out.bel,hrl,hrn,hol,hon,HB1.out.1,HI.out.bsz⟩;obtain ⟨nl,hnl⟩:∃m,last.length=m:=⟨_,rfl⟩;obtain ⟨nn,hnn⟩:∃m,next.length=m:=⟨_,rfl⟩;have HNN:Hid (last.length=nl/\next.length=nn):=⟨hnl,hnn⟩;have HD:Hid (X.D.dead=true):=hdd;rw [hnl,hnn];obtain ⟨b1,hb1⟩:∃b,sameB (oaR (crashD X.D l2).now).st next=b:=⟨_,rfl⟩
      have HST0:Hid (b1=false->sameB (oaR (crashD X.D l2).now).st last=true):=by
       intro e;rw [e] at hb1;have h0:=sameB_no hb1;rcases (HI.out.lv.fall l2).2.2 with h|⟨_,h⟩
       ·rw [h];exact sameB_self _
       ·exact absurd (List.mem_singleton.1 h) h0
      have HB1':Hid (sameB (oaR (crashD X.D l2).now).st next=b1):=hb1;clear hb1;clear hrl hrn hol hon hnl hnn HI hdd;cases b1 with
      |true=>
       rcases hlx with hlt|rfl
       all_goals (
        go_wp2_with (first
        |(go_at_call 39;refine hdv.mono ?_;rintro e w' ⟨rfl,rfl⟩)
        |(go_at_call 42;refine hde0.mono ?_;rintro e w' ⟨rfl,rfl⟩)
        |(go_at_call 40;refine hcr.mono ?_;rintro e w5 ⟨q,Fq,rfl,q1,q2,q3⟩
          obtain ⟨k1,k2,k3,k4,k5,k6,k7,k8⟩:=HL.out;have hl5:=k1.keep q2;have hdv2:=hl5.device;have hde:=hl5.dead;rw [HD.out] at hde;have hz2:=q2.size;have hF5:∀k,Fq k->B<=k:=fun k hk=>jN k8 (q3 k hk)
          have hb5:Below w.heap.size w w5:=k2.trans (q2.mono k2.size);have hwn:=crashWhole (k:=0) k1 l2 q1 (by omega) hF5 (by omega) an cn next (k4.below hb5) (k6.imp id (fun hh k hk=>by have h1:=hh k hk;omega)) nn HNN.out.2;rw [HB1'.out] at hwn;have H5:Hid (Below w.heap.size w w5/\(∀k,Fq k->B<=k)/\B<=w5.heap.size):=⟨hb5,hF5,by omega⟩;clear hcr q1 q2 q3 hl5 hz2 hF5 hb5 k1 k2 k3 k4 k5 k6 k7 k8)
        |(go_at_call 39;refine hdv2.mono ?_;rintro e w' ⟨rfl,rfl⟩;clear hdv2)
        |(go_at_call 42;refine hde.mono ?_;rintro e w' ⟨rfl,rfl⟩;clear hde)
        |(go_at_call 21;refine hwn.mono ?_;rintro e w6 ⟨rfl,-,hc6⟩
          have H6:Hid (Below w.heap.size w w6):=H5.out.1.trans ((hc6.mono H5.out.1.size (fun _ _ e=>e)).below (fun k e=>by have h1:=H5.out.2.1 k e;have h2:=HL.out.2.2.2.2.2.2.1;omega));clear hwn hc6))
        go_ret
        exact ⟨rfl,H6.out⟩)
      |false=>
       have HST:Hid (sameB (oaR (crashD X.D l2).now).st last=true):=HST0.out rfl;rcases hlx with hlt|rfl
       all_goals (
        go_wp2_with (first
        |(go_at_call 39;refine hdv.mono ?_;rintro e w' ⟨rfl,rfl⟩)
        |(go_at_call 42;refine hde0.mono ?_;rintro e w' ⟨rfl,rfl⟩)
        |(go_at_call 40;refine hcr.mono ?_;rintro e w5 ⟨q,Fq,rfl,q1,q2,q3⟩
          obtain ⟨k1,k2,k3,k4,k5,k6,k7,k8⟩:=HL.out;have hl5:=k1.keep q2;have hdv2:=hl5.device;have hde:=hl5.dead;rw [HD.out] at hde;have hz2:=q2.size;have hF5:∀k,Fq k->B<=k:=fun k hk=>jN k8 (q3 k hk)
          have hb5:Below w.heap.size w w5:=k2.trans (q2.mono k2.size);have hwn:=crashWhole (k:=0) k1 l2 q1 (by omega) hF5 (by omega) an cn next (k4.below hb5) (k6.imp id (fun hh k hk=>by have h1:=hh k hk;omega)) nn HNN.out.2;rw [HB1'.out] at hwn;have H5:Hid (Below w.heap.size w w5/\(∀k,Fq k->B<=k)/\B<=w5.heap.size):=⟨hb5,hF5,by omega⟩;clear hcr q1 q2 q3 hl5 hz2 hF5 hb5 k1 k2 k3 k4 k5 k6 k7 k8)
        |(go_at_call 39;refine hdv2.mono ?_;rintro e w' ⟨rfl,rfl⟩;clear hdv2)
        |(go_at_call 42;refine hde.mono ?_;rintro e w' ⟨rfl,rfl⟩;clear hde)
        |(go_at_call 21;refine hwn.mono ?_;rintro e w6 ⟨rfl,⟨k6,hk6,hd6⟩,hc6⟩
          have H6:Hid (Below w.heap.size w w6/\Dev w6 q Fq (rdK (crashD X.D l2) k6)/\k6<=5000/\B<=w6.heap.size):=⟨H5.out.1.trans ((hc6.mono H5.out.1.size (fun _ _ e=>e)).below (fun k e=>by have h1:=H5.out.2.1 k e;have h2:=HL.out.2.2.2.2.2.2.1;omega)),hd6,by omega,by have h1:=H5.out.2.2;have h2:=hc6.size;omega⟩;have hcr2:=crash_any hd6 (by have h1:=(rdK_ops (crashD X.D l2) k6).2;have h0:(crashD X.D l2).since.length=0:=rfl;omega) none 0 [] (row0 w6);rw [crash_two X.D l2 k6] at hcr2;clear hwn hd6 hk6 hc6)
        |(go_at_call 40;refine hcr2.mono ?_;rintro e w7 ⟨q2,Fr,rfl,g1,g2,g3⟩
          obtain ⟨f1,f2,_⟩:=HL.out.1.fall l2;have hop:=Open_oa (N:=9) (n:=60) g1 (by decide) (by decide) (fallD_n HL.out.1 l2).1 (Well.new _) (fallD_n HL.out.1 l2).2 (by show 0<=_;omega) f1 f2;have H7:Hid (Below w6.heap.size w6 w7/\∀k,Fr k->w6.heap.size<=k):=⟨g2,g3⟩;clear hcr2 g1 g2 g3 f1 f2)
        |(go_at_call 12;refine hop.mono ?_;rintro e w8 ⟨t,X2,rfl,hO,-⟩
          have H8:Hid (Below w6.heap.size w6 w8):=by
           obtain ⟨F',_,o2⟩:=hO.out;have h1:=H7.out.1;exact h1.trans ((o2.below (B:=w6.heap.size) h1.size H7.out.2).1)
          have h8z:=H8.out.size;have hB8:Below w.heap.size w w8:=(H6.out.1).trans (H8.out.mono (H6.out.1).size);have hwl:=crashWhole HL.out.1 l2 ((H6.out.2.1).below H8.out) (by have:=H6.out.2.2.1;omega) H5.out.2.1 (by have:=H6.out.2.2.2;omega) al cl last (HL.out.2.2.1.below hB8) (HL.out.2.2.2.2.1.imp id (fun hh k hk=>by have h1:=hh k hk;have h2:=HL.out.2.2.2.2.2.2.1;omega)) nl HNN.out.1;rw [HST.out] at hwl;have H8B:Hid (Below w.heap.size w w8):=hB8;clear hop hO hB8 h8z)
        |(go_at_call 21;refine hwl.mono ?_;rintro e w9 ⟨rfl,-,hc9⟩
          have H9:Hid (Below w.heap.size w w9):=H8B.out.trans ((hc9.mono H8B.out.size (fun _ _ e=>e)).below (fun k e=>by have h1:=H5.out.2.1 k e;have h2:=HL.out.2.2.2.2.2.2.1;omega));clear hwl hc9))
        go_ret
        exact ⟨rfl,H9.out⟩)
    ·have hdd:X.D.dead=false:=by simpa using hdz
     clear hdz;by_cases hlt:k<n
     ·have hT:T=[]:=by
       rcases HI.out.al with h|⟨_,h⟩
       ·exact h
       ·rw [hdd] at h;cases h
      subst hT;have hdv:=HI.out.lv.device;have hde:=HI.out.lv.dead;rw [hdd] at hde;obtain ⟨bo,oo,hao,hbo⟩:∃b off,a0=some ⟨b,off,none⟩/\∀i,i<l0.length->BxAt' w b (off+i) (l0.getD i noBx):=HW.out.1.2.2.resolve_left (fun e=>by have:=HN.out.1;rw [e] at this;simp at this;omega);subst hao;have hat:=hbo k (by have:=HN.out.1;omega);have hatr:=hat.below HI.out.bel;have hsz:=smB_at HSM.out (i:=k) (by have:=HN.out.1;omega);have hin:=Inn.of (o:=oo+k) hat;obtain ⟨z,hz⟩:∃z,l0.getD k noBx=z:=⟨_,rfl⟩;rw [hz] at hatr hsz hin hat;have hc4:=hatr.c0;have hst:=step_any HI.out.lv z.a z.c z.z hatr.row ((row_lt hat.row).imp id (fun hh kk ⟨x,e,hx⟩=>by have h1:=hh x e;have h2:=HB1.out.1;rw [<-hx];omega)) HI.out.bsz hsz (by have:=HI.out.cc;omega);have HZ:Hid (Inn w (.slice z.a z.z.length z.c) z.z/\(.slice z.a z.z.length z.c:Value)=.slice z.a z.z.length z.c/\BxAt' w bo (oo+k) z):=⟨hin,rfl,hat⟩;obtain ⟨zl,hzl⟩:∃m,z.z.length=m:=⟨_,rfl⟩;have HZL:Hid (z.z.length=zl):=hzl;rw [hzl] at hc4 hst;have hkc:k<cap0:=by omega
      clear hbo hat hatr hsz hin hz hzl
      go_wp2_with (first
       |(go_at_call 39;refine hdv.mono ?_;rintro e w' ⟨rfl,rfl⟩;clear hdv)
       |(go_at_call 42;refine hde.mono ?_;rintro e w' ⟨rfl,rfl⟩;clear hde))
      refine hst.mono ?_;clear hst;rintro e w4 ⟨E,rfl,hE⟩
      have hc5:w4.cell? ⟨bo,oo+k,none⟩=some (.slice z.a zl z.c):=by
       have h1:=HZ.out.2.2.c0;rw [HZL.out] at h1;exact ((HI.out.bel.trans (hE.1.mono HB1.out.1)).cell (block_lt_of_cell h1)).trans h1
      have H4:Hid (StE wr w4 B s d 60 c X pl r [] last [next] z.z E):=hE;clear hE hc4;have HBL:Hid (Below w.heap.size w w4/\B<=w4.heap.size):=⟨HI.out.bel.trans (H4.out.1.mono HB1.out.1),jN HI.out.bsz H4.out.1.size⟩;rcases H4.out.2 with ⟨rfl,_,h6⟩|⟨rfl,X',T',h7,hbad,hmo,_,_,hTT⟩|⟨rfl,X',r',h0,hmo,_⟩
      ·have HQ:Hid (CrI w w4 B s d (k+1) c _ _ bg X pl r [] last next):=⟨h6,by have:=HI.out.cc;omega,HI.out.out,HBL.out.1,HBL.out.2,HI.out.l,HI.out.n,.inl rfl⟩;clear H4 h6 HI;go_wp2_with fail
       go_roundg (n-(k+1))
       case rel=>exact ⟨k+1,c,bg,X,pl,r,[],last,next,by omega,rfl,by go_num,rfl,HQ.out⟩
       case measure=>have:=HGK.out;omega
      ·have ho0:X'.D.out=[]:=List.length_eq_zero_iff.1 (Nat.le_zero.1 (by have h1:=hmo.out;rw [HI.out.out] at h1;exact h1))
       have hdd':X'.D.dead=true:=by
        rcases hbad with h|h
        ·exact h
        ·rw [HI.out.out] at h;exact absurd h (Nat.not_lt_zero _)
       have mk:∀{vL vN:Value},CrI w wr B s d k c vL vN bg X pl r [] last next->∃T2,CrI w w4 B s d (k+1) (c+20000) vL (.slice z.a zl z.c) true X' pl r T2 last z.z:=by
        intro vL vN hi;refine ⟨T',⟨h7.sto,h7.i,h7.pl,h7.dn,h7.ops,h7.since,h7.g,h7.st,h7.rr,fun y hy=>⟨(h7.tr y hy).1,?_⟩⟩,by have:=HI.out.cc;omega,ho0,HBL.out.1,HBL.out.2,hi.l,by rw [<-HZL.out];exact HZ.out.1,.inr ⟨rfl,hdd'⟩⟩;rcases hTT with e|⟨y0,e,e2⟩
        ·rw [e] at hy;cases hy
        ·rw [e] at hy;rw [List.mem_singleton.1 hy,e2];exact List.mem_singleton.2 rfl
       have HQ:Hid _:=mk HI.out;clear mk H4 h7 hbad hmo hTT HI;obtain ⟨T2,HQ2⟩:=HQ.out;have HQ3:Hid _:=HQ2;clear HQ HQ2;go_wp2_with fail
       go_roundg (n-(k+1))
       case rel=>exact ⟨k+1,c+20000,true,X',pl,r,T2,last,z.z,by omega,rfl,by go_num,rfl,HQ3.out⟩
       case measure=>have:=HGK.out;omega
      ·have ho0:X'.D.out=[]:=List.length_eq_zero_iff.1 (Nat.le_zero.1 (by have h1:=hmo.out;rw [HI.out.out] at h1;exact h1));have HQ:Hid (CrI w w4 B s d (k+1) (c+20000) (.slice z.a zl z.c) _ bg X' (1-pl) r' [] z.z next):=⟨⟨h0.sto,h0.i,h0.pl,h0.dn,h0.ops,h0.since,h0.g,h0.st,h0.rr,fun y hy=>by cases hy⟩,by have:=HI.out.cc;omega,ho0,HBL.out.1,HBL.out.2,by rw [<-HZL.out];exact HZ.out.1,HI.out.n,.inl rfl⟩;clear H4 h0 hmo HI;go_wp2_with fail
       go_roundg (n-(k+1))
       case rel=>exact ⟨k+1,c+20000,bg,X',1-pl,r',[],z.z,next,by omega,rfl,by go_num,rfl,HQ.out⟩
       case measure=>have:=HGK.out;omega
     ·have hkn:k=n:=by omega
      subst hkn;obtain ⟨al,cl,rfl,hrl,hol⟩:=HI.out.l;obtain ⟨an,cn,rfl,hrn,hon⟩:=HI.out.n;have hdv:=HI.out.lv.device;have hde0:=HI.out.lv.dead;rw [hdd] at hde0;have hcr:=HI.out.lv.crash (by have:=HI.out.cc;omega) a2 cap2 l2 (HW.out.2.below HI.out.bel);rw [HN.out.2] at hcr;have HL:Hid (Lv wr B s d 60 c X pl r T last [next]/\Below w.heap.size w wr/\Row w al cl last/\Row w an cn next/\(last=[]\/∀k,obl al k->k<w.heap.size)/\(next=[]\/∀k,obl an k->k<w.heap.size)/\w.heap.size<=B/\B<=wr.heap.size):=⟨HI.out.lv,HI.out.bel,hrl,hrn,hol,hon,HB1.out.1,HI.out.bsz⟩;obtain ⟨nl,hnl⟩:∃m,last.length=m:=⟨_,rfl⟩;obtain ⟨nn,hnn⟩:∃m,next.length=m:=⟨_,rfl⟩;have HNN:Hid (last.length=nl/\next.length=nn):=⟨hnl,hnn⟩;have HD:Hid (X.D.dead=false):=hdd;rw [hnl,hnn]
      have hst:(oaR (crashD X.D l2).now).st=last:=by
       rcases (HI.out.lv.fall l2).2.2 with h|⟨h,_⟩
       ·exact h
       ·rcases HI.out.al with h2|⟨h2,h3⟩
        ·exact absurd h2 h
        ·(rw [hdd] at h3;cases h3)
      have HST:Hid (sameB (oaR (crashD X.D l2).now).st last=true):=by
       show sameB _ _=true;rw [hst];exact sameB_self _
      clear hst;clear hrl hrn hol hon hnl hnn HI hdd
      go_wp2_with (first
       |(go_at_call 39;refine hdv.mono ?_;rintro e w' ⟨rfl,rfl⟩)
       |(go_at_call 42;refine hde0.mono ?_;rintro e w' ⟨rfl,rfl⟩)
       |(go_at_call 40;refine hcr.mono ?_;rintro e w5 ⟨q,Fq,rfl,q1,q2,q3⟩
         obtain ⟨k1,k2,k3,k4,k5,k6,k7,k8⟩:=HL.out;have hl5:=k1.keep q2;have hdv2:=hl5.device;have hde:=hl5.dead;rw [HD.out] at hde;have hz2:=q2.size;have hF5:∀k,Fq k->B<=k:=fun k hk=>jN k8 (q3 k hk)
         have hb5:Below w.heap.size w w5:=k2.trans (q2.mono k2.size);have hcr2:=crash_any (D:=rdK (crashD X.D l2) 0) q1 (by show 0<=_;omega) none 0 [] (row0 w5);rw [crash_two X.D l2 0] at hcr2;have H5:Hid (Below w.heap.size w w5/\(∀k,Fq k->B<=k)/\B<=w5.heap.size/\Dev w5 q Fq (rdK (crashD X.D l2) 0)):=⟨hb5,hF5,by omega,q1⟩;clear hcr q1 q2 q3 hl5 hz2 hF5 hb5 k1 k2 k3 k4 k5 k6 k7 k8)
       |(go_at_call 39;refine hdv2.mono ?_;rintro e w' ⟨rfl,rfl⟩;clear hdv2)
       |(go_at_call 42;refine hde.mono ?_;rintro e w' ⟨rfl,rfl⟩;clear hde)
       |(go_at_call 40;refine hcr2.mono ?_;rintro e w7 ⟨q2,Fr,rfl,g1,g2,g3⟩
         obtain ⟨f1,f2,_⟩:=HL.out.1.fall l2;have hop:=Open_oa (N:=9) (n:=60) g1 (by decide) (by decide) (fallD_n HL.out.1 l2).1 (Well.new _) (fallD_n HL.out.1 l2).2 (by show 0<=_;omega) f1 f2;have H7:Hid (Below w5.heap.size w5 w7/\∀k,Fr k->w5.heap.size<=k):=⟨g2,g3⟩;clear hcr2 g1 g2 g3 f1 f2)
       |(go_at_call 12;refine hop.mono ?_;rintro e w8 ⟨t,X2,rfl,hO,-⟩
         have H8:Hid (Below w5.heap.size w5 w8):=by
          obtain ⟨F',_,o2⟩:=hO.out;have h1:=H7.out.1;exact h1.trans ((o2.below (B:=w5.heap.size) h1.size H7.out.2).1)
         have h8z:=H8.out.size;have hB8:Below w.heap.size w w8:=(H5.out.1).trans (H8.out.mono (H5.out.1).size);have hwl:=crashWhole HL.out.1 l2 ((H5.out.2.2.2).below H8.out) (by omega) H5.out.2.1 (by have:=H5.out.2.2.1;omega) al cl last (HL.out.2.2.1.below hB8) (HL.out.2.2.2.2.1.imp id (fun hh k hk=>by have h1:=hh k hk;have h2:=HL.out.2.2.2.2.2.2.1;omega)) nl HNN.out.1;rw [HST.out] at hwl;have H8B:Hid (Below w.heap.size w w8):=hB8;clear hop hO hB8 h8z)
       |(go_at_call 21;refine hwl.mono ?_;rintro e w9 ⟨rfl,-,hc9⟩
         have H9:Hid (Below w.heap.size w w9):=H8B.out.trans ((hc9.mono H8B.out.size (fun _ _ e=>e)).below (fun k e=>by have h1:=H5.out.2.1 k e;have h2:=HL.out.2.2.2.2.2.2.1;omega));clear hwl hc9))
      go_ret
      exact ⟨rfl,H9.out⟩
end Go.Proofs.YtaijfhadecennaaGreat.storeCrashes
