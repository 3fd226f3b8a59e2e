import Derived.Test.YtaijfhadecennaaGreatEnr
import Derived.WalkKit
import Derived.ProofKit
import Derived.OpenShut
import Derived.ShutString
import Derived.ChangeOld
import Derived.Below
namespace Go.Proofs.YtaijfhadecennaaGreat.storeKnown
open Go.ChangeShapes Go.WideShapes Go.ChangeAt Go.RowKit
open Go.Proofs.YtaijfhadecennaaGreat.Oct Go.Proofs.YtaijfhadecennaaGreat.Oct.Sx
set_option linter.unusedVariables false
theorem kn_P:trS 1 0 (tkS (ned ((16+7)/8)) (newS 16))=[1,1,1,0,0,0,0,0,0,0,0,0,0,0,0,0]:=by decide
theorem kn_C:hd0 (tkG (ned ((16+7)/8)) (newS 16))=2:=by decide
set_option maxHeartbeats 4000000 in
set_option maxRecDepth 100000 in
theorem walk (w:World):
  Calls Tryz.prog 3 #[] w fun e w'=>e=.returned (.bool true)/\Below w.heap.size w w':=by
 have haw:=awake13 w;have hfr:∀(wx:World),Calls Tryz.prog 10 #[.int .i64 16,.int .i64 8] wx _:=fun wx=>Fresh_yes (w:=wx) (n:=16) (N:=8) (by decide) (by decide) (by decide) (by decide)
 have hfn:=fun wx=>Format_no none 8 wx (.inl rfl)
 have hon:=fun wx=>Open_no none 8 wx (.inl rfl)
 have hf0:=field_S0;go_enter Tryz.func3,Tryz.ntmps3
 go_wp2_with (first
  |(go_at_call 9;refine haw.mono ?_;rintro e w1 ⟨rfl,hb1⟩;have hfr1:=hfr w1;have H1:Hid (Below w.heap.size w w1):=hb1;clear haw hb1 hfr)
  |(go_at_call 10;refine hfr1.mono ?_;clear hfr1;rintro e w2 ⟨s,d,X,r,rfl,hf,hl,hv,hb2⟩
    have hfn1:=hfn w2;have hP:X.P=[1,1,1,0,0,0,0,0,0,0,0,0,0,0,0,0]:=hf.P.trans kn_P;have hS:X.S=sup 1 16 0 2:=by rw [hf.S,hf.C];exact congrArg (sup 1 16 0) kn_C
    obtain ⟨F,hs,hF⟩:=hl.sto;have H2:Hid (Sto w2 s d F X/\(∀k,F k->w1.heap.size<=k)/\X.P=[1,1,1,0,0,0,0,0,0,0,0,0,0,0,0,0]/\X.D.n=16/\Below w.heap.size w w2):=⟨hs,hF,hP,hf.dn,H1.out.trans (hb2.mono H1.out.size)⟩;have hsu:=Super_any hs;rw [hS] at hsu;unfold spV sup at hsu;have hF1:Hid (∀k,F k->w.heap.size<=k):=fun k hk=>jN H1.out.size (hF k hk)
    clear hf hl hv hb2 hP hS hs hF hfn)
  |(go_at_call 11;refine hfn1.mono ?_;clear hfn1;rintro e w' ⟨rfl,rfl⟩;have hon1:=hon w2)
  |(go_at_call 12;refine hon1.mono ?_;clear hon1 hon;rintro e w' ⟨rfl,rfl⟩)
  |(go_at_call 13;refine hsu.mono ?_;clear hsu;rintro e w3 ⟨rfl,hb3⟩
    have H3:Hid (Below w2.heap.size w2 w3):=hb3;clear hb3))
 obtain ⟨wu,hwu⟩:∃wu,w3.alloc (.cells #[.int .i64 1,.int .i64 16,.int .i64 0,.int .i64 0,.int .i64 0,.int .i64 0,.int .i64 0,.int .i64 2] 29)=wu:=⟨_,rfl⟩;obtain ⟨u,hu⟩:∃u,w3.heap.size=u:=⟨_,rfl⟩;have hun:=heap_alloc_new w3 (.cells #[.int .i64 1,.int .i64 16,.int .i64 0,.int .i64 0,.int .i64 0,.int .i64 0,.int .i64 0,.int .i64 2] 29);have hub:Below w3.heap.size w3 wu:=by rw [<-hwu];exact (Below.refl _ w3).alloc (jB _) _
 rw [hwu,hu] at hun;have hul:=heap_lt hun;have hu0:=fun (w':World) (hh:w'.heap[u]?=wu.heap[u]?) (i:Nat)=>cell_of_row w' u i _ _ (0,0) (hh.trans hun)
 have HU:Hid (∀(w':World),w'.heap[u]?=wu.heap[u]?->w'.cell? ⟨u,0,none⟩=some (.int .i64 1)/\w'.cell? ⟨u,1,none⟩=some (.int .i64 16)/\w'.cell? ⟨u,2,none⟩=some (.int .i64 0)/\w'.cell? ⟨u,7,none⟩=some (.int .i64 2)):=fun w' hh=>⟨hu0 w' hh 0,hu0 w' hh 1,hu0 w' hh 2,hu0 w' hh 7⟩
 have h23:=H3.out.trans (hub.mono H3.out.size);have hB:Below w.heap.size w wu:=H2.out.2.2.2.2.trans (h23.mono H2.out.2.2.2.2.size);have Hu:Hid (Sto wu s d F X/\Below w.heap.size w wu/\(∀k,F k->k≠u)/\u<wu.heap.size):=⟨H2.out.1.below h23,hB,fun k hk e=>by have h1:=H2.out.1.lt k hk;have h2:=H3.out.size;omega,hul⟩;rw [hwu,hu];clear hwu hun hub hul hu0 h23 hB hu;have hpg:=page_any 1 1 wu
 go_wp2_with (first
  |(go_at_call 15;refine hpg.mono ?_;clear hpg;rintro e w4 ⟨rfl,-,hb4⟩
    have h4:=Hu.out.1.below hb4;have hwr:=Write_no h4 2 ⟨by omega,by rw [H2.out.2.2.2.1];decide⟩ (by rw [H2.out.2.2.1];decide) (some ⟨wu.heap.size,0,none⟩) 256;have H4:Hid (Sto w4 s d F X/\Below wu.heap.size wu w4):=⟨h4,hb4⟩;clear hb4 h4)
  |(go_at_call 14;refine hwr.mono ?_;clear hwr;rintro e w5 ⟨rfl,hb5⟩
    have h5:=H4.out.1.below hb5;have hal:=Alloc_any h5;rw [H2.out.2.2.1,show alN [1,1,1,0,0,0,0,0,0,0,0,0,0,0,0,0]=3 by decide,show alE [1,1,1,0,0,0,0,0,0,0,0,0,0,0,0,0]=0 by decide,show alL [1,1,1,0,0,0,0,0,0,0,0,0,0,0,0,0]=[1,1,1,2,0,0,0,0,0,0,0,0,0,0,0,0] by decide] at hal;have H5:Hid (Below wu.heap.size wu w5):=H4.out.2.trans (hb5.mono H4.out.2.size);clear hb5 h5)
  |(go_at_call 16;refine hal.mono ?_;clear hal;rintro e w6 ⟨rfl,F6,h6,st6⟩
    have hdr:=Drop_any h6 3;dsimp only at hdr;rw [show gvE [1,1,1,2,0,0,0,0,0,0,0,0,0,0,0,0] 3=0 by decide,show gvL [1,1,1,2,0,0,0,0,0,0,0,0,0,0,0,0] 3=[1,1,1,0,0,0,0,0,0,0,0,0,0,0,0,0] by decide] at hdr;have H6:Hid (Step F F6 w5 w6):=st6;clear st6 h6)
  |(go_at_call 17;refine hdr.mono ?_;clear hdr;rintro e w7 ⟨rfl,F7,h7,st7⟩
    have hal2:=Alloc_any h7;dsimp only at hal2;rw [show alN [1,1,1,0,0,0,0,0,0,0,0,0,0,0,0,0]=3 by decide,show alE [1,1,1,0,0,0,0,0,0,0,0,0,0,0,0,0]=0 by decide,show alL [1,1,1,0,0,0,0,0,0,0,0,0,0,0,0,0]=[1,1,1,2,0,0,0,0,0,0,0,0,0,0,0,0] by decide] at hal2;have H7:Hid (Step F F7 w5 w7):=H6.out.trans st7;clear st7 h7)
  |(go_at_call 16;refine hal2.mono ?_;clear hal2;rintro e w8 ⟨rfl,F8,h8,st8⟩
    have h58:=H7.out.trans st8;have hlu:u<w5.heap.size:=jZ Hu.out.2.2.2 H5.out.size;obtain ⟨u0,u1,u2,u7⟩:=HU.out w8 ((h58.1.block u hlu (fun e=>Hu.out.2.2.1 u e rfl)).trans (H5.out.block u Hu.out.2.2.2));have hbk:=Back_no h8;have hfe:=Free_any h8;dsimp only at hfe;rw [show ([1,1,1,2,0,0,0,0,0,0,0,0,0,0,0,0]:List Int).count 0=12 by decide] at hfe
    have H8:Hid (Below w.heap.size w w8):=by
     have h1:=Hu.out.2.1.trans (H5.out.mono Hu.out.2.1.size);exact h1.trans (h58.below h1.size hF1.out).1
    clear st8 h58 h8 hlu)
  |(go_at_call 18;refine hbk.mono ?_;clear hbk;rintro e w' ⟨rfl,rfl⟩)
  |(go_at_call 19;refine hfe.mono ?_;clear hfe;rintro e w9 ⟨rfl,hb9⟩
    have H9:Hid (Below w.heap.size w w9):=H8.out.trans (hb9.mono H8.out.size);clear hb9))
 go_ret
 exact ⟨rfl,H9.out⟩
end Go.Proofs.YtaijfhadecennaaGreat.storeKnown
