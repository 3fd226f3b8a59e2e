import Derived.Test.YtaijfhadecennaaGreatEnr
import Derived.WalkKit
import Derived.ProofKit
import Derived.OpenShut
import Derived.ShutString
import Derived.ChangeOld
import Derived.Below
namespace Go.Proofs.YtaijfhadecennaaGreat.storeFormats
open Go.ChangeShapes Go.WideShapes Go.ChangeAt Go.RowKit
open Go.Proofs.YtaijfhadecennaaGreat.Oct Go.Proofs.YtaijfhadecennaaGreat.Oct.Sx
set_option linter.unusedVariables false
theorem ned_1 {n:Nat} (h:n<=300) (h8:8<=n):ned ((n+7)/8)=1:=by unfold ned;omega
set_option maxHeartbeats 4000000 in
set_option maxRecDepth 100000 in
theorem walk (a0:Int) (a1:Int) (w:World) (w0: -9223372036854775808<=a0/\a0<=9223372036854775807) (w1: -9223372036854775808<=a1/\a1<=9223372036854775807):
  Calls Tryz.prog 4 #[.int .i64 a0,.int .i64 a1] w fun e w'=>e=.returned (.bool true)/\Below w.heap.size w w':=by
 have haw:=awake13 w;by_cases hbig:300<a0
 ·go_enter Tryz.func4,Tryz.ntmps4
  go_wp2_with (first
   |(go_at_call 9;refine haw.mono ?_;rintro e w1 ⟨rfl,hb1⟩;have H1:Hid (Below w.heap.size w w1):=hb1;clear haw hb1))
  go_ret
  exact ⟨rfl,H1.out⟩
 by_cases h8:a0<8
 ·have hnw:=fun wx:World=>new_no a0 wx (by simp [aB];omega)
  go_enter Tryz.func4,Tryz.ntmps4
  go_wp2_with (first
   |(go_at_call 9;refine haw.mono ?_;rintro e w1 ⟨rfl,hb1⟩;have H1:Hid (Below w.heap.size w w1):=hb1;clear haw hb1)
   |(go_at_call 20;refine (hnw _).mono ?_;rintro e w' ⟨rfl,rfl⟩))
  go_ret
  exact ⟨rfl,H1.out⟩
 obtain ⟨n,rfl⟩:∃n:Nat,a0=(n:Int):=⟨a0.toNat,by omega⟩;have hn8:8<=n:=by omega
 have hn3:n<=300:=by omega
 have hnw:=fun wx:World=>new_yes n wx hn8 (by omega)
 by_cases hfr:a1<8\/4096<a1
 ·have hfm:=fun (wx:World) (dx:Nat)=>Format_no (some ⟨dx,0,none⟩) a1 wx (.inr hfr)
  go_enter Tryz.func4,Tryz.ntmps4
  rcases hfr with hfr|hfr
  all_goals (
   go_wp2_with (first
    |(go_at_call 9;refine haw.mono ?_;rintro e w1 ⟨rfl,hb1⟩
      have hnw1:=hnw w1;have H1:Hid (Below w.heap.size w w1):=hb1;clear haw hb1 hnw)
    |(go_at_call 20;refine hnw1.mono ?_;clear hnw1;rintro e w2 ⟨d,Fd,rfl,h1,h2,h3⟩
      have hfm1:=hfm w2 d;have H2:Hid (Below w.heap.size w w2):=H1.out.trans (h2.mono H1.out.size);clear h1 h2 h3 hfm)
    |(go_at_call 11;refine hfm1.mono ?_;clear hfm1;rintro e w' ⟨rfl,rfl⟩))
   go_ret
   exact ⟨rfl,H2.out⟩)
 obtain ⟨N,rfl⟩:∃N:Nat,a1=(N:Int):=⟨a1.toNat,by omega⟩;have hN8:8<=N:=by omega
 have hN4:N<=4096:=by omega
 have hfm:=fun (wx:World) (dx:Nat) (Fx:Nat->Prop) (hd:Dev wx dx Fx (newD (List.replicate (n*256) 0)))=>Format_yes (N:=N) (n:=n) hd hN8 hN4 (by simp [newD]) (Well.new _) hd.1 (by show 0+5000<=_;omega) (by show 0+5000<=_;omega)
 clear h8 hbig hfr w0 w1;go_enter Tryz.func4,Tryz.ntmps4
 go_wp2_with (first
  |(go_at_call 9;refine haw.mono ?_;rintro e w1 ⟨rfl,hb1⟩
    have hnw1:=hnw w1;have H1:Hid (Below w.heap.size w w1):=hb1;clear haw hb1 hnw)
  |(go_at_call 20;refine hnw1.mono ?_;clear hnw1;rintro e w2 ⟨d,Fd,rfl,h1,h2,h3⟩
    have hf1:=hfm w2 d Fd h1;have H2:Hid (Below w1.heap.size w1 w2/\∀k,Fd k->w1.heap.size<=k):=⟨h2,h3⟩;clear hfm h1 h2 h3)
  |(go_at_call 11;refine hf1.mono ?_;clear hf1;rintro e w3 ⟨s,X,r,rfl,h4,h5⟩
    have H3:Hid (Lv w3 w1.heap.size s d n 20 X 0 r [] [] []/\LvW n X 0 r []/\Below w.heap.size w w3/\w1.heap.size<=w3.heap.size):=by
     obtain ⟨k1,k2⟩:=H2.out;obtain ⟨F',k3,k4⟩:=h4.out;obtain ⟨k5,k6⟩:=k4.below k1.size k2;obtain ⟨k7,k8⟩:=fmt_lv h5 ⟨F',k3,k6⟩;exact ⟨k7,k8,(H1.out.trans (k1.mono H1.out.size)).trans (k5.mono H1.out.size),jN k1.size k5.size⟩
    have hcn:X.P.count 0=n-3:=by
     have h1:=H3.out.1.free H3.out.2.1;rw [h5.cl,ned_1 hn3 hn8] at h1;omega
    obtain ⟨F3,hs3,-⟩:=H3.out.1.sto;have hfa:=Free_any hs3;rw [hcn,show ((n-3:Nat):Int)=(n:Int)-3 by omega] at hfa;have HC:Hid (X.P.count 0=n-3):=hcn;clear h4 h5 hs3 hcn)
  |(go_at_call 19;refine hfa.mono ?_;clear hfa;rintro e w4 ⟨rfl,hb4⟩
    have H4:Hid (Lv w4 w1.heap.size s d n 20 X 0 r [] [] []/\Below w.heap.size w w4/\w1.heap.size<=w4.heap.size):=⟨H3.out.1.keep hb4,H3.out.2.2.1.trans (hb4.mono H3.out.2.2.1.size),jN H3.out.2.2.2 hb4.size⟩;have hwh:=lvWhole H4.out.1 H3.out.2.1 H4.out.2.2 (by omega) none 0 [] (row0 w4) (.inl rfl) 0 rfl true (sameB_self _);clear hb4)
  |(go_at_call 21;refine hwh.mono ?_;clear hwh;rintro e w5 ⟨rfl,X4,hl5,hv5,hb5,hX4,-⟩
    have hcn:X4.P.count 0=n-3:=by rw [hX4];exact HC.out
    have H5:Hid (Lv w5 w1.heap.size s d n (20+4100) X4 0 r [] [] []/\LvW n X4 0 r []/\Below w.heap.size w w5/\w1.heap.size<=w5.heap.size/\X4.P.count 0=n-3):=⟨hl5,hv5,H4.out.2.1.trans (hb5.mono H1.out.size),jN H4.out.2.2 hb5.size,hcn⟩;obtain ⟨F5,hs5,hF5⟩:=hl5.sto;obtain ⟨Fd5,d1,d2,d3⟩:=hs5.dev;have him:=image_any d1;have hll:X4.D.now.length=n*256:=by have h1:=hl5.i.jv.ok.now;rw [hl5.dn] at h1;exact h1
    have HD:Hid (Dev w5 d Fd5 X4.D/\(∀k,Fd5 k->k<w5.heap.size/\w1.heap.size<=k)/\(∀(w':World) (D':Dv) (Fd':Nat->Prop),Dev w' d Fd' D'->D'.n=X4.D.n->Step Fd5 Fd' w5 w'->∃F',Sto w' s d F' {X4 with D:=D'}/\Step F5 F' w5 w')/\X4.D.now.length=n*256):=⟨d1,fun k hk=>⟨hs5.lt k (d2 k hk),hF5 k (d2 k hk)⟩,d3,hll⟩;rw [hll] at him;clear hl5 hv5 hb5 hX4 hcn hs5 d1 d2 d3 hll)
  |(go_at_call 22;refine him.mono ?_;clear him;rintro e w6 ⟨g,c6,rfl,ho6,hb6⟩
    have hno:=H5.out.1.now;have hop:=Open_oa (N:=N) (n:=n) (HD.out.1.below hb6) hN8 hN4 H5.out.1.dn H5.out.2.1.well H5.out.1.i.jv.ok (by have:=H5.out.1.ops;omega) hno.1 (by rw [hno.2];exact H5.out.1.rr);have H6:Hid (Oct.Own w5.heap.size w6 (.slice (some ⟨g,0,none⟩) (n*256) c6) X4.D.now/\Below w5.heap.size w5 w6):=⟨ho6,hb6⟩;clear ho6 hb6 hno)
  |(go_at_call 12;refine hop.mono ?_;clear hop;rintro e w7 ⟨t,X5,rfl,hO,hX⟩
    obtain ⟨kk,hkk,hk5⟩:=hX.k;have hnow:X5.D.now=X4.D.now:=by rw [hk5,rdK_now]
    have hdn:X5.D.n=X4.D.n:=by rw [hk5,rdK_n]
    obtain ⟨g1,g2,g3,g4⟩:=elder HD.out.2.2.1 H6.out.2 hO hdn;obtain ⟨k1,k2⟩:=opd_same H5.out.1 H5.out.2.1 hX rfl;obtain ⟨F7,hs7⟩:=g2;have hsa:=Super_any hs7;have ho7:=H6.out.1.kept (g4.block g H6.out.1.lt2.2 (fun e=>by have h1:=(HD.out.2.1 g e).1;have h2:=H6.out.1.lt2.1;omega));have hB7:Below w.heap.size w w7:=(H5.out.2.2.1.trans (H6.out.2.mono H5.out.2.2.1.size)).trans ((g4.mono (jN H5.out.2.2.1.size H6.out.2.size) (fun _ _ e=>e)).below (fun k e=>by have h1:=(HD.out.2.1 k e).2;have h2:=H1.out.size;omega));rw [k2] at hsa;unfold spV at hsa;have H7:Hid ((∃F',Sto w7 s d F' {X4 with D:=X5.D})/\(∃F',Sto w7 t d F' X5)/\(∃Fd',Dev w7 d Fd' X5.D)/\X5.D.now=X4.D.now/\X5.P.count 0=n-3/\X4.P.count 0=n-3/\Oct.Own w5.heap.size w7 (.slice (some ⟨g,0,none⟩) (n*256) c6) X4.D.now/\Bys X4.D.now/\Below w.heap.size w w7):=⟨g1,⟨F7,hs7⟩,g3,hnow,by rw [k1];exact H5.out.2.2.2.2,H5.out.2.2.2.2,ho7,H5.out.1.i.jv.ok.bnow,hB7⟩;clear hO hX hkk hk5 hnow hdn g1 g3 g4 k1 k2 hs7 ho7 hB7)
  |(go_at_call 13;refine hsa.mono ?_;clear hsa;rintro e w8 ⟨rfl,hb8⟩
    obtain ⟨F8,hs8⟩:=H7.out.1;have hsb:=Super_any (hs8.below hb8);unfold spV at hsb;have H8:Hid (Below w7.heap.size w7 w8):=hb8;clear hb8 hs8)
  |(go_at_call 13;refine hsb.mono ?_;clear hsb;rintro e w9 ⟨rfl,hb9⟩
    have H9:Hid (Below w7.heap.size w7 w9):=H8.out.trans (hb9.mono H8.out.size);obtain ⟨F9,hs9⟩:=H7.out.2.1;have hfb:=Free_any (hs9.below H9.out);rw [H7.out.2.2.2.2.1] at hfb;clear hb9 hs9)
  |(go_at_call 19;refine hfb.mono ?_;clear hfb;rintro e wa ⟨rfl,hba⟩
    have Ha:Hid (Below w7.heap.size w7 wa):=H9.out.trans (hba.mono H9.out.size);obtain ⟨F9,hs9⟩:=H7.out.1;have hfc:=Free_any (hs9.below Ha.out);rw [show ({X4 with D:=X5.D}:Sx.St).P.count 0=n-3 from H7.out.2.2.2.2.2.1] at hfc;clear hba hs9)
  |(go_at_call 19;refine hfc.mono ?_;clear hfc;rintro e wb ⟨rfl,hbb⟩
    have Hb:Hid (Below w7.heap.size w7 wb):=Ha.out.trans (hbb.mono Ha.out.size);obtain ⟨Fb,db⟩:=H7.out.2.2.1;have him2:=image_any (db.below Hb.out);rw [H7.out.2.2.2.1,HD.out.2.2.2] at him2;clear hbb db)
  |(go_at_call 22;refine him2.mono ?_;clear him2;rintro e wc ⟨g2,c2,rfl,hoc,hbc⟩
    have Hc:Hid (Below w7.heap.size w7 wc):=Hb.out.trans (hbc.mono Hb.out.size);have hr1:=(H7.out.2.2.2.2.2.2.1.row' H7.out.2.2.2.2.2.2.2.1).2.below Hc.out;have hr2:=(hoc.row' H7.out.2.2.2.2.2.2.2.1).2;have hsm:=same_any _ _ c6 c2 X4.D.now X4.D.now wc hr1 hr2;rw [HD.out.2.2.2,sameB_self] at hsm;clear hoc hbc hr1 hr2)
  |(go_at_call 23;refine hsm.mono ?_;clear hsm;rintro e wd ⟨rfl,hbd⟩
    have Hd:Hid (Below w.heap.size w wd):=(H7.out.2.2.2.2.2.2.2.2.trans (Hc.out.mono H7.out.2.2.2.2.2.2.2.2.size)).trans (hbd.mono (H7.out.2.2.2.2.2.2.2.2.trans (Hc.out.mono H7.out.2.2.2.2.2.2.2.2.size)).size);clear hbd))
 go_ret
 exact ⟨rfl,Hd.out⟩
end Go.Proofs.YtaijfhadecennaaGreat.storeFormats
