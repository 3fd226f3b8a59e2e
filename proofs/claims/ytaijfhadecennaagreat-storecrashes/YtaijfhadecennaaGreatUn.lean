/- Part of a proof. -/
import Derived.Test.YtaijfhadecennaaGreatUk
import Derived.Test.YtaijfhadecennaaGreatEnc
import Derived.Test.YtaijfhadecennaaGreatKo
set_option maxHeartbeats 2000000
namespace Go.Proofs.YtaijfhadecennaaGreat.Oct
open Go.RowKit
theorem rch_all (a a':Option Addr) (cap cap' n n':Nat) (w:World) (T U:Sp) (e f:Int)
  (C1:∀w1,Below w.heap.size w w1->Calls Tryz.prog 164 #[.slice a n cap] w1 fun r w'=>r=.returned (.tuple #[spV T,.int .i64 e])/\Below w1.heap.size w1 w')
  (C2:∀w1,Below w.heap.size w w1->Calls Tryz.prog 164 #[.slice a' n' cap'] w1 fun r w'=>r=.returned (.tuple #[spV U,.int .i64 f])/\Below w1.heap.size w1 w') (V:Sp) (P E:Int)
  (hz:(e=0/\(f !=0)=true/\V=T/\P=0/\E=0)\/(e=0/\f=0/\U.g<=T.g/\V=T/\P=0/\E=0)\/(e=0/\f=0/\¬U.g<=T.g/\V=U/\P=1/\E=0)\/((e !=0)=true/\(e==0)=false/\f=0/\V=U/\P=1/\E=0)\/(e !=0)=true/\(f !=0)=true/\V=sp0/\P= -1/\E=8):
  Calls Tryz.prog 117 #[.slice a n cap,.slice a' n' cap'] w fun r w'=>r=.returned (.tuple #[spV V,.int .i64 P,.int .i64 E])/\Below w.heap.size w w':=by
 have H1:Hid _:=C1;have H2:Hid _:=C2;clear C1 C2;dsimp only [spV] at H1 H2 ⊢;go_enter Tryz.func117,Tryz.ntmps117
 go_wp2_with fail
 refine (H1.out _ ((Below.refl _ w).alloc (jB _) _)).mono ?_;clear H1;rintro r w1 ⟨rfl,hb⟩;have R1:Hid (Sw8 w1 w.heap.size sp0):=(sw8_new w sp0 29).same (hb.block _ (by simp));have HB1:Hid (Below w.heap.size w w1):=((Below.refl _ w).alloc (jB _) _).trans (hb.mono (by simp));clear hb;go_wp2_with fail
 refine (H2.out _ (HB1.out.alloc HB1.out.size _)).mono ?_;clear H2;rintro r w2 ⟨rfl,hb⟩;have R2:Hid (Sw8 (w2.alloc (.cells #[.int .i64 U.g,.int .i64 U.p,.int .i64 U.r,.int .i64 U.h,.int .i64 U.b,.int .i64 U.l,.int .i64 U.s,.int .i64 U.f] 29)) w.heap.size sp0):=((R1.out.alloc _).below hb).alloc _;have X2:Hid (Sl8 (w2.alloc (.cells #[.int .i64 U.g,.int .i64 U.p,.int .i64 U.r,.int .i64 U.h,.int .i64 U.b,.int .i64 U.l,.int .i64 U.s,.int .i64 U.f] 29)) w1.heap.size T):=((sw8_new w1 T 29).below hb).alloc _ |>.1
 have HB2:Hid (Below w.heap.size w (w2.alloc (.cells #[.int .i64 U.g,.int .i64 U.p,.int .i64 U.r,.int .i64 U.h,.int .i64 U.b,.int .i64 U.l,.int .i64 U.s,.int .i64 U.f] 29))):=by
  have h1:Below w.heap.size w w2:=(HB1.out.alloc HB1.out.size _).trans (hb.mono (jN HB1.out.size (by simp)));exact h1.alloc h1.size _
 clear hb;have q':=R2.out;obtain ⟨k0,k1,k2,k3,k4,k5,k6,k7⟩:=X2.out;obtain ⟨⟨q0,q1,q2,q3,q4,q5,q6,q7⟩,qf⟩:=q';have f0:=qf 0 (by omega);have f1:=qf 1 (by omega);have f2:=qf 2 (by omega);have f3:=qf 3 (by omega);have f4:=qf 4 (by omega);have f5:=qf 5 (by omega);have f6:=qf 6 (by omega);have f7:=qf 7 (by omega);clear qf;dsimp only [sp0] at q0 q1 q2 q3 q4 q5 q6 q7;rcases hz with ⟨rfl,hf,rfl,rfl,rfl⟩|⟨rfl,rfl,hg,rfl,rfl,rfl⟩|⟨rfl,rfl,hg,rfl,rfl,rfl⟩|⟨he,he2,rfl,rfl,rfl,rfl⟩|⟨he,hf,rfl,rfl,rfl⟩;rotate_left 4
 ·go_wp2;clear k0 k1 k2 k3 k4 k5 k6 k7;clear q0 q1 q2 q3 q4 q5 q6 q7 f0 f1 f2 f3 f4 f5 f6 f7;obtain ⟨q0,q1,q2,q3,q4,q5,q6,q7⟩:=wr8_sl R2.out.1 sp0;unfold wr8 at q0 q1 q2 q3 q4 q5 q6 q7;dsimp only [sp0] at q0 q1 q2 q3 q4 q5 q6 q7;refine bodyPost_ret (v:=.tuple #[spV sp0,.int .i64 (-1),.int .i64 8]) ?_ rfl ⟨rfl,wr8_below HB2.out (jB _) sp0⟩;simp [results,Tryz.results117,go_sem,spV,sp0,q0,q1,q2,q3,q4,q5,q6,q7]
 all_goals (
  go_wp2;clear k0 k1 k2 k3 k4 k5 k6 k7;clear q0 q1 q2 q3 q4 q5 q6 q7 f0 f1 f2 f3 f4 f5 f6 f7;obtain ⟨q0,q1,q2,q3,q4,q5,q6,q7⟩:=wr8_sl R2.out.1 V;unfold wr8 at q0 q1 q2 q3 q4 q5 q6 q7;refine bodyPost_ret (v:=.tuple #[spV V,.int .i64 _,.int .i64 0]) ?_ rfl ⟨rfl,wr8_below HB2.out (jB _) V⟩;simp [results,Tryz.results117,go_sem,spV,q0,q1,q2,q3,q4,q5,q6,q7])
theorem rchoose_v (a a':Option Addr) (cap cap' n n':Nat) (x y:List Int) (w:World) (hx:Row w a cap x) (hnx:x.length=n) (hy:Row w a' cap' y) (hny:y.length=n')
  (S:Sp) (hS:chS x y=S) (P:Int) (hP:chP x y=P) (E:Int) (hE:chE x y=E):
  Calls Tryz.prog 117 #[.slice a n cap,.slice a' n' cap'] w fun e w'=>e=.returned (.tuple #[spV S,.int .i64 P,.int .i64 E])/\Below w.heap.size w w':=by
 subst hS hP hE;have C1:∀w1,Below w.heap.size w w1->Calls Tryz.prog 164 #[.slice a n cap] w1 fun r w'=>r=.returned (.tuple #[spV (deS x),.int .i64 (deE x)])/\Below w1.heap.size w1 w':=fun w1 hb=>rdecode_v a cap n x w1 (hx.below hb) hnx _ rfl _ rfl
 have C2:∀w1,Below w.heap.size w w1->Calls Tryz.prog 164 #[.slice a' n' cap'] w1 fun r w'=>r=.returned (.tuple #[spV (deS y),.int .i64 (deE y)])/\Below w1.heap.size w1 w':=fun w1 hb=>rdecode_v a' cap' n' y w1 (hy.below hb) hny _ rfl _ rfl
 by_cases h1:deE x=0
 ·by_cases h2:deE y=0
  ·by_cases hg:(deS y).g<=(deS x).g
   ·have e1:chS x y=deS x:=by unfold chS;rw [if_pos ⟨h1,.inr hg⟩]
    have e2:chP x y=0:=by unfold chP;rw [if_pos ⟨h1,.inr hg⟩]
    have e3:chE x y=0:=by unfold chE;rw [if_neg (fun hh=>hh.1 h1)]
    rw [e1,e2,e3];exact rch_all a a' cap cap' n n' w _ _ _ _ C1 C2 _ _ _ (.inr (.inl ⟨h1,h2,hg,rfl,rfl,rfl⟩))
   ·have hn:¬(deE x=0/\(deE y≠0\/(deS y).g<=(deS x).g)):=fun hh=>hh.2.elim (fun h=>h h2) hg
    have e1:chS x y=deS y:=by unfold chS;rw [if_neg hn]
    have e2:chP x y=1:=by unfold chP;rw [if_neg hn,if_pos h2]
    have e3:chE x y=0:=by unfold chE;rw [if_neg (fun hh=>hh.1 h1)]
    rw [e1,e2,e3];exact rch_all a a' cap cap' n n' w _ _ _ _ C1 C2 _ _ _ (.inr (.inr (.inl ⟨h1,h2,hg,rfl,rfl,rfl⟩)))
  ·have e1:chS x y=deS x:=by unfold chS;rw [if_pos ⟨h1,.inl h2⟩]
   have e2:chP x y=0:=by unfold chP;rw [if_pos ⟨h1,.inl h2⟩]
   have e3:chE x y=0:=by unfold chE;rw [if_neg (fun hh=>hh.1 h1)]
   rw [e1,e2,e3];exact rch_all a a' cap cap' n n' w _ _ _ _ C1 C2 _ _ _ (.inl ⟨h1,by simpa using h2,rfl,rfl,rfl⟩)
 ·have hn:¬(deE x=0/\(deE y≠0\/(deS y).g<=(deS x).g)):=fun hh=>h1 hh.1
  have e1:chS x y=deS y:=by unfold chS;rw [if_neg hn]
  by_cases h2:deE y=0
  ·have e2:chP x y=1:=by unfold chP;rw [if_neg hn,if_pos h2]
   have e3:chE x y=0:=by unfold chE;rw [if_neg (fun hh=>hh.2 h2)]
   rw [e1,e2,e3];exact rch_all a a' cap cap' n n' w _ _ _ _ C1 C2 _ _ _ (.inr (.inr (.inr (.inl ⟨by simpa using h1,by simpa using h1,h2,rfl,rfl,rfl⟩))))
  ·have e2:chP x y= -1:=by unfold chP;rw [if_neg hn,if_neg h2]
   have e3:chE x y=8:=by unfold chE;rw [if_pos ⟨h1,h2⟩]
   rw [e1,e2,e3,de_0 h2];exact rch_all a a' cap cap' n n' w _ _ _ _ C1 C2 _ _ _ (.inr (.inr (.inr (.inr ⟨by simpa using h1,by simpa using h2,rfl,rfl,rfl⟩))))
theorem rwalk_any (a:Option Addr) (cap N:Nat) (L:List Int) (w:World) (hr:Row w a cap L) (hil:L.length=256*N) (hN8:8<=N) (h4:N<=4096) (S:Sp) (hr0:S.r=0):
  Calls Tryz.prog 118 #[.slice a L.length cap,spV S] w fun e w'=>(∃v,e=.returned (.tuple #[v,.int .i64 (waE L S)])/\RepIs w.heap.size w' v (waR L S))/\Below w.heap.size w w':=by
 have hpg:pgN L=N:=by unfold pgN;rw [hil];omega
 cases hS:okS S with
 |false=>
  have e:waE L S=1:=by unfold waE;rw [hS];rfl
  have e2:waR L S=rp0:=by unfold waR;rw [if_neg (by rw [e];decide)]
  rw [e,e2];refine (rwalk_arg a L.length cap w S hS).mono ?_;rintro e w' ⟨rfl,hb⟩;exact ⟨⟨_,rfl,rep0 _ _⟩,hb⟩
 |true=>
  by_cases hp:S.p=(N:Int)
  ·exact rwalk_go a cap N L w hr hil hN8 h4 S hS hp _ rfl _ rfl hr0
  ·have e:waE L S=8:=by unfold waE;rw [if_pos hS,hpg,if_neg hp]
   have e2:waR L S=rp0:=by unfold waR;rw [if_neg (by rw [e];decide)]
   rw [e,e2];refine (rwalk_pages a L.length cap N (jN hr.2.1 hr.2.2.1) (by omega) w S hS hp).mono ?_;rintro e w' ⟨rfl,hb⟩;exact ⟨⟨_,rfl,rep0 _ _⟩,hb⟩
theorem page_row {w:World} {a:Option Addr} {cap N:Nat} {L:List Int} (hr:Row w a cap L) (hil:L.length=256*N) (hN:8<=N):∃b off,a=some ⟨b,off,none⟩/\Row w (some ⟨b,off,none⟩) cap (pageOf L 0)/\Row w (some ⟨b,off+256,none⟩) (cap-256) (pageOf L 1)/\(pageOf L 0).length=256/\(pageOf L 1).length=256:=by
 obtain ⟨b,off,rfl⟩:=hr.some' (by omega);have h2:=hr.2.1;have h3:=hr.2.2.1;have e0:(pageOf L 0).length=256:=by unfold pageOf;simp;omega
 have e1:(pageOf L 1).length=256:=by unfold pageOf;simp;omega
 refine ⟨b,off,rfl,⟨fun z hz=>hr.1 z (jV (jT hz)),by omega,h3,.inr ⟨b,off,rfl,fun i hi=>?_⟩⟩,⟨fun z hz=>hr.1 z (jV (jT hz)),by omega,by omega,.inr ⟨b,off+256,rfl,fun i hi=>?_⟩⟩,e0,e1⟩
 ·rw [hr.cells i (by omega)];unfold pageOf;rw [jA,jA,List.getElem?_take,if_pos (by omega),qN,Nat.zero_mul,qW]
 ·rw [yI,hr.cells (256+i) (by omega)];unfold pageOf;rw [jA,jA,List.getElem?_take,if_pos (by omega),qN,Nat.one_mul]
def sp8:Array Value:= #[.int .i64 0,.int .i64 0,.int .i64 0,.int .i64 0,.int .i64 0,.int .i64 0,.int .i64 0,.int .i64 0]
theorem StS_run {w:World} {g:Nat} {old:Array Value} {S:Sp} (hg:w.heap[g]?=some (.cells old 29 (0,0))) (ho:old.size=8):(StS (.pointer (some ⟨g,0,none⟩)) (.agg (spC S))).run Tryz.prog w=.ok () (w.setRow g (spC S)):=by
 unfold StS;simp only [Instr.storeAt,Instr.sureAddr,Sem.run_bind,Sem.run_pure,Result.andThen_ok];rw [run_storeVar_row w g 29 29 old (spC S) hg (by kernel_rfl) ho (by simp [spC,Value.oneCell'])]
theorem StS_new (w:World) (S:Sp):(StS (.pointer (some ⟨w.heap.size,0,none⟩)) (.agg (spC S))).run Tryz.prog (w.alloc (.cells sp8 29))=.ok () ((w.alloc (.cells sp8 29)).setRow w.heap.size (spC S)):=StS_run (heap_alloc_new w _) rfl
def Chosen (w wx:World) (b4:Nat) (S:Sp):Prop:=wx.heap[b4]?=some (.cells (spC S) 29 (0,0))/\Below w.heap.size w wx/\wx.heap[w.heap.size]?=some (.cells rp0C 95 (0,0))
theorem chosen_a {w w0 w5:World} {S:Sp} (hB:Below w.heap.size w w0) (hr:w0.heap[w.heap.size]?=some (.cells rp0C 95 (0,0))) (hb:Below w0.heap.size w0.drew w5):Chosen w ((w5.alloc (.cells sp8 29)).setRow w5.heap.size (spC S)) w5.heap.size S:=by
 have hb':Below w0.heap.size w0 w5:=⟨hb.os,hb.tape,hb.output,hb.size,hb.block⟩;have hlt:=heap_lt hr;have hs:=hb'.size;refine ⟨setRow_heap _ _ _ _ _ _ (heap_alloc_new w5 _),?_,?_⟩
 ·have h1:=(hB.trans (hb'.mono hB.size)).alloc (by have:=hB.size;omega) (.cells sp8 29);exact ((Ch.of (fun _=>False) h1).setRow (.inl (by have:=hB.size;omega)) _).below (fun k e=>by cases e)
 ·rw [setRow_other _ _ _ _ (by omega),heap_alloc_old _ _ (by omega),hb'.block _ hlt];exact hr
theorem chosen_b {w w0 w5:World} {S:Sp} {o:Obj} (hB:Below w.heap.size w w0) (hr:w0.heap[w.heap.size]?=some (.cells rp0C 95 (0,0))) (hs0:w0.heap.size=w.heap.size+1) (ho:o=.cells sp8 29) (hb:Below (w0.alloc o).heap.size (w0.alloc o).drew w5):Chosen w (w5.setRow (w.heap.size+1) (spC S)) (w.heap.size+1) S:=by
 subst ho;have hb':Below (w0.alloc (.cells sp8 29)).heap.size (w0.alloc (.cells sp8 29)) w5:=⟨hb.os,hb.tape,hb.output,hb.size,hb.block⟩
 have hz:w5.heap[w.heap.size+1]?=some (.cells sp8 29 (0,0)):=by
  rw [hb'.block _ (by rw [heap_alloc_size];omega),<-hs0];exact heap_alloc_new w0 _
 have h1:=(hB.alloc hB.size (.cells sp8 29)).trans (hb'.mono (by rw [heap_alloc_size];omega));refine ⟨setRow_heap _ _ _ _ _ _ hz,((Ch.of (fun _=>False) h1).setRow (.inl (by omega)) _).below (fun k e=>by cases e),?_⟩;rw [setRow_other _ _ _ _ (by omega),hb'.block _ (by rw [heap_alloc_size];omega),heap_alloc_old _ _ (by omega)];exact hr
theorem nothing_end0 {w w1:World} {cs:Array Value} (hb:Below w.heap.size w w1) (hr:w1.heap[w.heap.size]?=some (.cells rp0C 95 (0,0))) (hc:cs.size=14) (h1:cs.all (·.oneCell')=true):
  (StR (.pointer (some ⟨w.heap.size,0,none⟩)) (.agg cs)).run Tryz.prog w1=.ok () (w1.setRow w.heap.size cs)/\(w1.setRow w.heap.size cs).heap[w.heap.size]?=some (.cells cs 95 (0,0))/\Below w.heap.size w (w1.setRow w.heap.size cs):=
 ⟨StR_run hr rfl hc h1,setRow_heap w1 _ _ _ _ _ hr,((Ch.of (fun _=>False) hb).setRow (.inl (jB _)) _).below (fun k e=>by cases e)⟩
theorem rp0_lit:rp0C= #[.int .i64 0,.int .i64 0,.int .i64 0,.int .i64 0,.int .i64 0,.int .i64 0,.int .i64 0,.int .i64 0,.int .i64 0,.slice none 0 0,.slice none 0 0,.slice none 0 0,.slice none 0 0,.int .i64 0]:=rfl
theorem rp0_one:rp0C.size=14/\rp0C.all (·.oneCell')=true:=⟨rfl,rp_one ..⟩
theorem StR_new (w:World) {cs:Array Value} (hc:cs.size=14) (h1:cs.all (·.oneCell')=true):(StR (.pointer (some ⟨w.heap.size,0,none⟩)) (.agg cs)).run Tryz.prog (w.alloc (.cells rp0C 95))=.ok () ((w.alloc (.cells rp0C 95)).setRow w.heap.size cs):=StR_run (heap_alloc_new w _) rfl hc h1
theorem LdR_run {w:World} {g:Nat} {cs:Array Value} (hg:w.heap[g]?=some (.cells cs 95 (0,0))) (hc:cs.size=14):(LdR (.pointer (some ⟨g,0,none⟩))).run Tryz.prog w=.ok (.agg cs) w:=by
 unfold LdR;simp only [Instr.loadAt,Instr.sureAddr,Sem.run_bind,Sem.run_pure,Result.andThen_ok,run_loadVar_row (P:=Tryz.prog) w g 95 95 cs (0,0) _ hg Tryz.underlying95 rfl (by rw [hc];kernel_rfl)]
attribute [local go_sem ↓] StR_eq LdR_eq StS_eq
set_option maxRecDepth 20000 in
theorem raopen_any (a:Option Addr) (cap N:Nat) (L:List Int) (w:World) (hr:Row w a cap L) (hil:L.length=256*N) (hN8:8<=N) (h4:N<=4096) (E:Int) (hE:oaE L=E) (R:Rp) (hR:oaR L=R) (hz0:(chS (pageOf L 0) (pageOf L 1)).r=0):
  Calls Tryz.prog 67 #[.slice a L.length cap] w fun e w'=>(∃v,e=.returned (.tuple #[v,.int .i64 E])/\RepIs w.heap.size w' v R)/\Below w.heap.size w w':=by
 obtain ⟨b,off,rfl,hr0,hr1,l0,l1⟩:=page_row hr hil hN8;obtain ⟨S,hS⟩:∃S,chS (pageOf L 0) (pageOf L 1)=S:=⟨_,rfl⟩;have HR0:Hid (S.r=0):=by rw [<-hS];exact hz0
 clear hz0;obtain ⟨P,hP⟩:∃P,chP (pageOf L 0) (pageOf L 1)=P:=⟨_,rfl⟩;obtain ⟨X,hX⟩:∃X,chE (pageOf L 0) (pageOf L 1)=X:=⟨_,rfl⟩;have HC:Hid (∀w1,Below w.heap.size w w1->Calls Tryz.prog 117 #[.slice (some ⟨b,off,none⟩) 256 cap,.slice (some ⟨b,off+256,none⟩) 256 (cap-256)] w1 fun e w'=>e=.returned (.tuple #[spV S,.int .i64 P,.int .i64 X])/\Below w1.heap.size w1 w'):=fun w1 hb=>rchoose_v _ _ cap (cap-256) 256 256 _ _ w1 (hr0.below hb) l0 (hr1.below hb) l1 S hS P hP X hX
 have HL:Hid (L.length=256*N/\Row w (some ⟨b,off,none⟩) cap L):=⟨hil,hr⟩
 have HEE:Hid ((if X=0 then (if waE L S=0 then 0 else 8) else X)=E/\(if E=0 then {waR L S with pl:=P} else rp0)=R):=by
  refine ⟨?_,?_⟩
  ·rw [<-hE];unfold oaE opX;rw [hX,hS]
  ·rw [<-hR,<-hE];unfold oaR;rw [hS,hP]
 have hcap:=hr.2.2.1;have hlc:=hr.2.1;obtain ⟨LL,hLL⟩:∃LL,L.length=LL:=⟨_,rfl⟩;have HLL:Hid (L.length=LL):=hLL;rw [hLL] at hlc ⊢;unfold maxLen at hcap;have h512:512<=LL:=by omega
 clear hr hil hr0 hr1 l0 l1 hS hP hX hLL hE hR;go_enter Tryz.func67,Tryz.ntmps67
 go_upto_region 1 with fail
 have HB0:Hid (Below w.heap.size w (w.alloc (.cells rp0C 95))/\(w.alloc (.cells rp0C 95)).heap[w.heap.size]?=some (.cells rp0C 95 (0,0))):=⟨(Below.refl _ w).alloc (jB _) _,heap_alloc_new w _⟩;obtain ⟨w0,hw0⟩:∃w0,w.alloc (.cells rp0C 95)=w0:=⟨_,rfl⟩;have hs0:w0.heap.size=w.heap.size+1:=by rw [<-hw0];simp
 rw [hw0] at HB0;unfold rp0C rpC sp0 at hw0;simp only at hw0;rw [hw0];clear hw0;go_cut [4,5,6] (fun s4 s5 s6 wx=>∃b4,s4=.pointer (some ⟨b4,0,none⟩)/\s5=.int .i64 P/\s6=.int .i64 X/\Hid (Chosen w wx b4 S))
 case first=>
  have HSA:∀w':World,_:=fun w'=>StS_new w' S
  unfold spV at HC;unfold spC sp8 at HSA;have HC2:Hid (∀w1,Below w.heap.size w w1->Calls Tryz.prog 117 #[.slice (some ⟨b,off,none⟩) 256 cap,.slice (some ⟨b,off+256,none⟩) 256 (cap-256)] w1 fun e w'=>e=.returned (.tuple #[.agg #[.int .i64 S.g,.int .i64 S.p,.int .i64 S.r,.int .i64 S.h,.int .i64 S.b,.int .i64 S.l,.int .i64 S.s,.int .i64 S.f],.int .i64 P,.int .i64 X])/\Below w1.heap.size w1 w'/\(w1.heap[w.heap.size+1]?=some (.cells sp8 29 (0,0))->(StS (.pointer (some ⟨w.heap.size+1,0,none⟩)) (.agg #[.int .i64 S.g,.int .i64 S.p,.int .i64 S.r,.int .i64 S.h,.int .i64 S.b,.int .i64 S.l,.int .i64 S.s,.int .i64 S.f])).run Tryz.prog w'=.ok () (w'.setRow (w.heap.size+1) (spC S)))):=fun w1 hb=>(HC.out w1 hb).mono (fun e w' ⟨h1,h2⟩=>⟨h1,h2,fun h3=>StS_run ((h2.block _ (heap_lt h3)).trans h3) rfl⟩)
  go_region_with (go_at_call 117;refine (HC2.out _ (by first|exact HB0.out.1.drew|exact (HB0.out.1.alloc HB0.out.1.size _).drew|exact HB0.out.1|exact (HB0.out.1.alloc HB0.out.1.size _))).mono ?_;rintro e w5 ⟨rfl,hb5,hi5⟩;have HB5:Hid _:=hb5;clear hb5;(first|(replace hi5:=hi5 (by rw [<-hs0];exact heap_alloc_new w0 _))|clear hi5))
  all_goals go_wp2_with fail
  all_goals go_meet
  all_goals first|exact ⟨_,rfl,rfl,rfl,chosen_a HB0.out.1 HB0.out.2 HB5.out⟩|exact ⟨_,rfl,rfl,rfl,chosen_b HB0.out.1 HB0.out.2 hs0 rfl HB5.out⟩
 case rest=>
  obtain ⟨b4,rfl,rfl,rfl,HCh⟩:=hcut;have hsc:=HCh.out.1;have hbc:=HCh.out.2.1;have hrc:=HCh.out.2.2;have s0:wc.cell? ⟨b4,0,none⟩=some (.int .i64 S.g):=by rw [cell_of_row wc _ _ _ _ (0,0) hsc];rfl
  have s1:wc.cell? ⟨b4,1,none⟩=some (.int .i64 S.p):=by rw [cell_of_row wc _ _ _ _ (0,0) hsc];rfl
  have s2:wc.cell? ⟨b4,2,none⟩=some (.int .i64 S.r):=by rw [cell_of_row wc _ _ _ _ (0,0) hsc];rfl
  have s3:wc.cell? ⟨b4,3,none⟩=some (.int .i64 S.h):=by rw [cell_of_row wc _ _ _ _ (0,0) hsc];rfl
  have s4:wc.cell? ⟨b4,4,none⟩=some (.int .i64 S.b):=by rw [cell_of_row wc _ _ _ _ (0,0) hsc];rfl
  have s5:wc.cell? ⟨b4,5,none⟩=some (.int .i64 S.l):=by rw [cell_of_row wc _ _ _ _ (0,0) hsc];rfl
  have s6:wc.cell? ⟨b4,6,none⟩=some (.int .i64 S.s):=by rw [cell_of_row wc _ _ _ _ (0,0) hsc];rfl
  have s7:wc.cell? ⟨b4,7,none⟩=some (.int .i64 S.f):=by rw [cell_of_row wc _ _ _ _ (0,0) hsc];rfl
  by_cases hX0:X=0
  ·subst hX0;have hwk:=rwalk_any (some ⟨b,off,none⟩) cap N L wc (HL.out.2.below hbc) HL.out.1 hN8 h4 S HR0.out;rw [HLL.out] at hwk
   have HEQ:Hid ((if waE L S=0 then 0 else 8)=E/\(if E=0 then {waR L S with pl:=P} else rp0)=R/\(waE L S=0->(waR L S).pl= -1)):=by
    refine ⟨?_,HEE.out.2,fun h=>?_⟩
    ·have:=HEE.out.1;rw [if_pos rfl] at this;exact this
    ·unfold waR;rw [if_pos h]
   obtain ⟨Y,hY⟩:∃Y,waE L S=Y:=⟨_,rfl⟩;obtain ⟨Z,hZ⟩:∃Z,waR L S=Z:=⟨_,rfl⟩;rw [hY,hZ] at hwk HEQ;have HBC:Hid (Below w.heap.size w wc/\wc.heap[w.heap.size]?=some (.cells rp0C 95 (0,0))):=⟨hbc,hrc⟩;clear hY hZ hsc hbc hrc HEE HCh;unfold spV at hwk;go_wp2_with fail
   refine hwk.mono ?_;clear hwk;rintro e w5 ⟨⟨v,rfl,hrep⟩,hb5⟩;obtain ⟨aP,cP,aT,cT,aS,cS,aG,cG,rfl,q1,q2,q3,q4,q5⟩:=hrep;obtain ⟨cx,hcx⟩:∃cx,rpC Z.s Z.pl (.slice aP Z.pc.length cP) (.slice aT Z.tx.length cT) (.slice aS Z.st.length cS) (.slice aG Z.pg.length cG) Z.h=cx:=⟨_,rfl⟩;have hcs:cx.size=14/\cx.all (·.oneCell')=true:=by rw [<-hcx];exact ⟨rfl,rp_one ..⟩
   have hst:=StR_new w5 hcs.1 hcs.2;have hb6:Below w5.heap.size w5 ((w5.alloc (.cells rp0C 95)).setRow w5.heap.size cx):=((Ch.of (fun _=>False) ((Below.refl w5.heap.size w5).alloc (jB _) _)).setRow (.inl (jB _)) _).below (fun k e=>by cases e);have hg6:((w5.alloc (.cells rp0C 95)).setRow w5.heap.size cx).heap[w5.heap.size]?=some (.cells cx 95 (0,0)):=setRow_heap _ _ _ _ _ _ (heap_alloc_new w5 _);obtain ⟨w6,hw6⟩:∃w6,(w5.alloc (.cells rp0C 95)).setRow w5.heap.size cx=w6:=⟨_,rfl⟩;rw [hw6] at hst hb6 hg6;rw [hcx];have hbw:=HBC.out.1.trans (hb5.mono HBC.out.1.size);have hr5:=(hb5.block _ (heap_lt HBC.out.2)).trans HBC.out.2
   have H6:Hid (Below w.heap.size w w6/\w6.heap[w.heap.size]?=some (.cells rp0C 95 (0,0))/\(RowC w5 aP cP Z.pc/\Row w5 aT cT Z.tx/\Row w5 aS cS Z.st/\RowI w5 aG cG Z.pg/\Below w5.heap.size w5 w6/\∀k,(obl aP k\/obl aT k\/obl aS k\/obl aG k)->w.heap.size<k)/\w6.heap[w5.heap.size]?=some (.cells cx 95 (0,0))/\w.heap.size<w5.heap.size):=
    ⟨hbw.trans (hb6.mono hbw.size),(hb6.block _ (heap_lt hr5)).trans hr5,⟨q1,q2,q3,q4,hb6,fun k hk=>by have:=q5 k hk;have:=heap_lt HBC.out.2;omega⟩,hg6,heap_lt hr5⟩
   have HCX:Hid _:=hcx;have HCS:Hid _:=hcs;rw [rp0_lit] at hst;clear hcx hcs hb6 hg6 hw6 hbw hr5 q1 q2 q3 q4 q5 hb5 HBC s0 s1 s2 s3 s4 s5 s6 s7;by_cases hY:Y=0
   ·subst hY;have hE:E=0:=HEQ.out.1.symm;have hR:R={Z with pl:=P}:=by have:=HEQ.out.2.1;rw [if_pos hE] at this;exact this.symm
    have hpl:Z.pl= -1:=HEQ.out.2.2 rfl;have hc8:w6.cell? ⟨w5.heap.size,8,none⟩=some (.int .i64 (-1)):=by rw [cell_of_row w6 _ _ _ _ (0,0) H6.out.2.2.2.1,<-HCX.out,hpl];rfl
    have hz8:w6.frozen? ⟨w5.heap.size,8,none⟩=false:=by unfold World.frozen?;rw [H6.out.2.2.2.1];simp
    obtain ⟨cy,hcy⟩:∃cy,rpC Z.s P (.slice aP Z.pc.length cP) (.slice aT Z.tx.length cT) (.slice aS Z.st.length cS) (.slice aG Z.pg.length cG) Z.h=cy:=⟨_,rfl⟩;have hys:cy.size=14/\cy.all (·.oneCell')=true:=by rw [<-hcy];exact ⟨rfl,rp_one ..⟩
    have hg7:(w6.setCell ⟨w5.heap.size,8,none⟩ (.int .i64 P)).heap[w5.heap.size]?=some (.cells cy 95 (0,0)):=by rw [setCell_heap _ _ _ _ _ _ _ H6.out.2.2.2.1,<-HCX.out,<-hcy];rfl
    have hb7:Below w5.heap.size w5 (w6.setCell ⟨w5.heap.size,8,none⟩ (.int .i64 P)):=H6.out.2.2.1.2.2.2.2.1.setCell (jB _) _;have hbw7:Below w.heap.size w (w6.setCell ⟨w5.heap.size,8,none⟩ (.int .i64 P)):=H6.out.1.setCell (p:=⟨w5.heap.size,8,none⟩) (Nat.le_of_lt H6.out.2.2.2.2) _;have hr7:(w6.setCell ⟨w5.heap.size,8,none⟩ (.int .i64 P)).heap[w.heap.size]?=some (.cells rp0C 95 (0,0)):=(Below.heap_setCell w6 ⟨w5.heap.size,8,none⟩ _ w.heap.size (Nat.ne_of_lt H6.out.2.2.2.2)).trans H6.out.2.1;have hld:=LdR_run hg7 hys.1;obtain ⟨n1,n2,n3⟩:=nothing_end0 (cs:=cy) hbw7 hr7 hys.1 hys.2
    have HN:Hid ((((w6.setCell ⟨w5.heap.size,8,none⟩ (.int .i64 P)).setRow w.heap.size cy).heap[w.heap.size]?=some (.cells cy 95 (0,0)))/\Below w.heap.size w ((w6.setCell ⟨w5.heap.size,8,none⟩ (.int .i64 P)).setRow w.heap.size cy)/\cy.size=14/\RepIs w.heap.size ((w6.setCell ⟨w5.heap.size,8,none⟩ (.int .i64 P)).setRow w.heap.size cy) (.agg cy) R):=by
     obtain ⟨q1,q2,q3,q4,-,q6⟩:=H6.out.2.2.1;have lt5:∀k,k<w5.heap.size->w.heap.size<k->((w6.setCell ⟨w5.heap.size,8,none⟩ (.int .i64 P)).setRow w.heap.size cy).heap[k]?=w5.heap[k]?:=fun k h1 h2=>(setRow_other _ _ k cy (by omega)).trans (hb7.block k h1)
     refine ⟨n2,n3,hys.1,aP,cP,aT,cT,aS,cS,aG,cG,by rw [<-hcy,hR],?_,?_,?_,?_,fun k hk=>by have:=q6 k hk;omega⟩
     ·rw [hR];obtain ⟨r1,r2,r3,r4⟩:=q1;refine ⟨r1,r2,r3,?_⟩;rcases r4 with r4|⟨b',off',e,hc⟩
      ·exact .inl r4
      ·exact .inr ⟨b',off',e,fun i hi=>(hc i hi).same (lt5 b' (hc i hi).lt (q6 b' (.inl ⟨_,e,rfl⟩)))⟩
     ·rw [hR];obtain ⟨r1,r2,r3,r4⟩:=q2;refine ⟨r1,r2,r3,?_⟩;rcases r4 with r4|⟨b',off',e,hc⟩
      ·exact .inl r4
      ·exact .inr ⟨b',off',e,fun i hi=>(World.cell?_of_block (w:=w5) (a:=⟨b',off'+i,none⟩) (lt5 b' (block_lt_of_cell (hc i hi)) (q6 b' (.inr (.inl ⟨_,e,rfl⟩))))).trans (hc i hi)⟩
     ·rw [hR];obtain ⟨r1,r2,r3,r4⟩:=q3;refine ⟨r1,r2,r3,?_⟩;rcases r4 with r4|⟨b',off',e,hc⟩
      ·exact .inl r4
      ·exact .inr ⟨b',off',e,fun i hi=>(World.cell?_of_block (w:=w5) (a:=⟨b',off'+i,none⟩) (lt5 b' (block_lt_of_cell (hc i hi)) (q6 b' (.inr (.inr (.inl ⟨_,e,rfl⟩)))))).trans (hc i hi)⟩
     ·rw [hR];obtain ⟨r1,r2,r3⟩:=q4;refine ⟨r1,r2,?_⟩;rcases r3 with r4|⟨b',off',e,hc⟩
      ·exact .inl r4
      ·exact .inr ⟨b',off',e,fun i hi=>(World.cell?_of_block (w:=w5) (a:=⟨b',off'+i,none⟩) (lt5 b' (block_lt_of_cell (hc i hi)) (q6 b' (.inr (.inr (.inr ⟨_,e,rfl⟩)))))).trans (hc i hi)⟩
    have HE0:Hid (E=0):=hE;clear hE hR hpl hcy hys hg7 hb7 hbw7 hr7 n2 n3;go_wp2;refine bodyPost_ret (results_rowtmp rfl _ _ w.heap.size _ _ (0,0) _ rfl HN.out.1 Tryz.underlying95 rfl (by rw [HN.out.2.2.1];kernel_rfl)) rfl ?_;rw [HE0.out];exact ⟨⟨_,rfl,HN.out.2.2.2⟩,HN.out.2.1⟩
   ·have hY1:(Y==0)=false:=by simpa using hY
    have hY2:(Y !=0)=true:=by unfold bne;rw [hY1];rfl
    obtain ⟨n1,n2,n3⟩:=nothing_end0 (cs:=rp0C) H6.out.1 H6.out.2.1 rp0_one.1 rp0_one.2;have HN:Hid _:=And.intro n2 n3
    have hE:Hid (E=8/\R=rp0):=by
     have e1:E=8:=by have:=HEQ.out.1;rw [if_neg hY] at this;exact this.symm
     refine ⟨e1,?_⟩;have:=HEQ.out.2.1;rw [if_neg (by rw [e1];decide)] at this;exact this.symm
    rw [rp0_lit] at n1;clear n2 n3 hY hY1;go_wp2;refine bodyPost_ret (results_rowtmp rfl _ _ w.heap.size _ _ (0,0) _ rfl HN.out.1 Tryz.underlying95 rfl (by kernel_rfl)) rfl ?_;rw [hE.out.1,hE.out.2];exact ⟨⟨_,rfl,rep0 _ _⟩,HN.out.2⟩
  ·have hX1:(X==0)=false:=by simpa using hX0
   have hX2:(X !=0)=true:=by unfold bne;rw [hX1];rfl
   obtain ⟨n1,n2,n3⟩:=nothing_end0 (cs:=rp0C) hbc hrc rp0_one.1 rp0_one.2;have HN:Hid _:=And.intro n2 n3
   have hE:Hid (E=X/\R=rp0):=by
    have e1:E=X:=by have:=HEE.out.1;rw [if_neg hX0] at this;exact this.symm
    refine ⟨e1,?_⟩;have:=HEE.out.2;rw [if_neg (by rw [e1];exact hX0)] at this;exact this.symm
   rw [rp0_lit] at n1;clear n2 n3 hX0 hX1 hsc hbc hrc s0 s1 s2 s3 s4 s5 s6 s7;go_wp2;refine bodyPost_ret (results_rowtmp rfl _ _ w.heap.size _ _ (0,0) _ rfl HN.out.1 Tryz.underlying95 rfl (by kernel_rfl)) rfl ?_;rw [hE.out.1,hE.out.2];exact ⟨⟨_,rfl,rep0 _ _⟩,HN.out.2⟩
end Go.Proofs.YtaijfhadecennaaGreat.Oct
namespace Go.Proofs.YtaijfhadecennaaGreat.Oct.Sx
open Go.RowKit
attribute [local go_sem ↓] StS_eq
section
variable {w w':World} {s d:Nat} {F:Nat->Prop} {X:St}
theorem Sto.cell (h:Sto w s d F X) (i:Nat) (v:Value) (hv:∀p sp vC,(stC d p sp X.S X.pl vC X.g)[i]?=some v):w.cell? ⟨s,i,none⟩=some v:=by
 obtain ⟨p,sp,aC,cC,lab,hS,_⟩:=h;rw [hS.cell,hv]
theorem Sto.lt2 (h:Sto w s d F X):s<w.heap.size:=by
 obtain ⟨p,sp,aC,cC,lab,hS,_⟩:=h;exact hS.lt
theorem results_s8 {fn:Func} {p:Tmp} (h:fn.results= #[.cell p 29]) (tmps:Array Value) (w:World) (g:Nat) (cs:Array Value)
  (hp:tmps.getD p undef=.pointer (some ⟨g,0,none⟩)) (hg:w.heap[g]?=some (.cells cs 29 (0,0))) (hc:cs.size=8):
  (results fn tmps).run Tryz.prog w=.ok (.agg cs) w:=by
 have h1:=run_loadVar_row (P:=Tryz.prog) w g 29 29 cs (0,0) _ hg Tryz.underlying29 rfl (by rw [hc];kernel_rfl);have hp':tmps[p]?.getD undef=.pointer (some ⟨g,0,none⟩):=by simpa using hp
 simp [results,h,hp',asAddr,h1]
theorem Super_any (h:Sto w s d F X):Calls Tryz.prog 13 #[.pointer (some ⟨s,0,none⟩)] w fun e w'=>e=.returned (spV X.S)/\Below w.heap.size w w':=by
 have s0:=h.cell 0 (.pointer (some ⟨d,0,none⟩)) (fun _ _ _=>rfl);have s3:=h.cell 3 (.int .i64 X.S.g) (fun _ _ _=>rfl);have s4:=h.cell 4 (.int .i64 X.S.p) (fun _ _ _=>rfl);have s5:=h.cell 5 (.int .i64 X.S.r) (fun _ _ _=>rfl);have s6:=h.cell 6 (.int .i64 X.S.h) (fun _ _ _=>rfl);have s7:=h.cell 7 (.int .i64 X.S.b) (fun _ _ _=>rfl);have s8:=h.cell 8 (.int .i64 X.S.l) (fun _ _ _=>rfl);have s9:=h.cell 9 (.int .i64 X.S.s) (fun _ _ _=>rfl);have s10:=h.cell 10 (.int .i64 X.S.f) (fun _ _ _=>rfl);have hsl:=h.lt2;have hmd:=fun (wx:World) (hx:wx.cell? ⟨s,0,none⟩=some (.pointer (some ⟨d,0,none⟩)))=>made_yes s d wx hx
 have hst:=StS_new w X.S
 have HB:Hid (((w.alloc (.cells sp8 29)).setRow w.heap.size (spC X.S)).heap[w.heap.size]?=some (.cells (spC X.S) 29 (0,0))/\Below w.heap.size w ((w.alloc (.cells sp8 29)).setRow w.heap.size (spC X.S))):=
  ⟨setRow_heap _ _ _ _ _ _ (heap_alloc_new w _),((Ch.of (fun _=>False) ((Below.refl _ w).alloc (jB _) _)).setRow (.inl (jB _)) _).below (fun k e=>by cases e)⟩
 obtain ⟨w9,hw9⟩:∃w9,(w.alloc (.cells sp8 29)).setRow w.heap.size (spC X.S)=w9:=⟨_,rfl⟩;rw [hw9] at hst HB;unfold spC sp8 at hst;clear h hw9;go_enter Tryz.func13,Tryz.ntmps13
 go_wp2_with (go_at_call 55;refine (hmd _ (by go_simp)).mono ?_;rintro e w' ⟨rfl,rfl⟩)
 refine bodyPost_ret (results_s8 rfl _ _ w.heap.size _ rfl HB.out.1 rfl) rfl ?_;exact ⟨rfl,HB.out.2⟩
theorem Device_any (h:Sto w s d F X):Calls Tryz.prog 39 #[.pointer (some ⟨s,0,none⟩)] w fun e w'=>e=.returned (.pointer (some ⟨d,0,none⟩))/\w=w':=by
 have s0:=h.cell 0 (.pointer (some ⟨d,0,none⟩)) (fun _ _ _=>rfl);have hmd:=made_yes s d w s0;clear h;go_enter Tryz.func39,Tryz.ntmps39
 go_wp2_with (go_at_call 55;refine hmd.mono ?_;rintro e w' ⟨rfl,rfl⟩)
 go_ret
 exact ⟨rfl,rfl⟩
theorem Free_any (h:Sto w s d F X):Calls Tryz.prog 19 #[.pointer (some ⟨s,0,none⟩)] w fun e w'=>e=.returned (.int .i64 (X.P.count 0))/\Below w.heap.size w w':=by
 have s0:=h.cell 0 (.pointer (some ⟨d,0,none⟩)) (fun _ _ _=>rfl);have s15:=h.cell 15 (.map none) (fun _ _ _=>rfl);have hmd:=made_yes s d w s0;have hl:=h.lt;obtain ⟨p,sp,aC,cC,lab,hS,hlab,_⟩:=h;have s2:=hS.at.2.2.1;have hsl:=hS.lt;obtain ⟨F2,q1,q2⟩:=hS.space;have hfr:=Sps.free_any q1;have hcn:(X.P.count 0:Int)<=4096:=by have h1:=List.count_le_length (a:=(0:Int)) (l:=X.P);have h2:=(spa_ok q1).hi;omega
 clear hS hlab hl q2;go_enter Tryz.func19,Tryz.ntmps19
 have hfr2:=Sps.free_any (w:=w.drew) (spa_keep q1 (jB _) (fun _ _=>rfl));clear q1 hfr;go_wp2_with (go_at_call 55;refine hmd.mono ?_;rintro e w' ⟨rfl,rfl⟩)
 go_region_held3 (fun w'=>w'.cell? ⟨s,2,none⟩=some (.pointer (some ⟨sp,0,none⟩))/\w'.cell? ⟨s,15,none⟩=some (.map none)) (first|go_keep|exact ⟨by assumption,by assumption⟩) (first
  |(go_at_call 63;refine hfr2.mono ?_;rintro e w1 ⟨rfl,hb'⟩
    have hb:Below w.heap.size w w1:=⟨hb'.os,hb'.tape,hb'.output,hb'.size,hb'.block⟩;have t15:=(hb.cell (p:=⟨s,15,none⟩) hsl).trans s15;have t2:=(hb.cell (p:=⟨s,2,none⟩) hsl).trans s2;have HB:Hid (Below w.heap.size w w1):=hb;clear hfr2 hb hb'))
 rw [show IntKind.i64.wrap (X.P.count 0:Int)=(X.P.count 0:Int) by rw [IntKind.wrap_i64];omega];go_wp2_with fail
 go_ret
 exact ⟨rfl,HB.out⟩
end
end Go.Proofs.YtaijfhadecennaaGreat.Oct.Sx
namespace Go.Proofs.YtaijfhadecennaaGreat.Oct
open Go.RowKit
theorem rsB_yes {R:List Bool} {k:Nat} (h:R.getD k false=true):rsB R (k+1)=rsB R k++[(k:Int)]:=by rw [rsB,if_pos h]
theorem rsB_no {R:List Bool} {k:Nat} (h:R.getD k false=false):rsB R (k+1)=rsB R k:=by rw [rsB,if_neg (by rw [h];simp)]
theorem rsB_len (R:List Bool):∀k,(rsB R k).length<=k:=by
 intro k
 induction k with
 |zero=>simp [rsB]
 |succ k ih=>
  cases h:R.getD k false
  ·rw [rsB_no h];omega
  ·rw [rsB_yes h,jO];simp;omega
section
variable {w:World} {p d:Nat} {F FD:Nat->Prop} {D0:Dv} {L:List Int} {vM:Value} {R:List Bool} {cs:List Int}
set_option maxRecDepth 20000 in
theorem pages0 (h:W0A w p d F FD D0 L vM R cs) (N:Nat) (hN:R.length=N):
  Calls Tryz.prog 196 #[.pointer (some ⟨p,0,none⟩)] w fun e w'=>∃g c,e=.returned (.slice g (rsB R N).length c)/\OwnI w.heap.size w' (.slice g (rsB R N).length c) (rsB R N)/\Below w.heap.size w w':=by
 have hrn:=h.rn;obtain ⟨gr,cr,aC,cC,h⟩:=h;have c1:=h.at.2.1;have hcap:=h.rch.cap;have HC:Hid (∀k,k<N->w.cell? ⟨gr,k,none⟩=some (.bool (R.getD k false))):=fun k hk=>(ownL_at h.rch k (by omega)).2.1
 have HG:Hid (gr<w.heap.size):=hcap.2.2.2.1;have hN4:N<=4096:=by omega
 rw [hN] at c1;have hcr:N<=cr:=by omega
 have hcr2:=hcap.2.2.1;unfold maxLen at hcr2;clear h hrn hcap hN;go_enter Tryz.func196,Tryz.ntmps196
 go_wp2_with fail
 go_loopg [3,11] N (fun gh v i wr=>∃k:Nat,k<=N/\gh=N-k/\i=.int .i64 k/\Hid (OwnI w.heap.size wr v (rsB R k)/\Below w.heap.size w wr))
 case atStart=>exact ⟨0,jU _,rfl,rfl,⟨rfl,.inl ⟨rfl,rfl⟩⟩,Below.refl _ _⟩
 case round=>
  obtain ⟨k,hk,hgk,rfl,HI⟩:=hrel;have HGK:Hid (gk=N-k):=hgk;clear hgk;by_cases hlt:k<N
  ·have ck:=(HI.out.2.cell (p:=⟨gr,k,none⟩) HG.out).trans (HC.out k hlt);obtain ⟨b,hb⟩:∃b,R.getD k false=b:=⟨_,rfl⟩;rw [hb] at ck;have HB:Hid (R.getD k false=b):=hb;have hrl:(rsB R k).length<=1000000:=by have:=rsB_len R k;omega
   have hsz:=HI.out.2.size;clear hb;cases b with
   |true=>
    go_wp2_with (at_builtin;refine appI wr rfl _ _ rfl w.heap.size u3 (rsB R k) (k:Int) rfl HI.out.1 rfl hrl hsz ?_;intro v4 w4 ho4 hb4;have H4:Hid (OwnI w.heap.size w4 v4 (rsB R (k+1))/\Below w.heap.size w w4):=(by show _/\_;rw [rsB_yes HB.out];exact ⟨ho4,HI.out.2.trans hb4⟩);clear ho4 hb4)
    go_roundg (N-(k+1))
    case rel=>exact ⟨k+1,by omega,rfl,by go_num,H4.out⟩
    case measure=>have:=HGK.out;omega
   |false=>
    have H4:Hid (OwnI w.heap.size wr u3 (rsB R (k+1))/\Below w.heap.size w wr):=(by show _/\_;rw [rsB_no HB.out];exact HI.out);go_wp2;go_roundg (N-(k+1))
    case rel=>exact ⟨k+1,by omega,rfl,by go_num,H4.out⟩
    case measure=>have:=HGK.out;omega
  ·obtain rfl:k=N:=by omega
   obtain ⟨g,c,hv,-⟩:=HI.out.1.row2;subst hv;have HE:Hid (∃g' c',Ending.returned (.slice g (rsB R k).length c)=.returned (.slice g' (rsB R k).length c')/\OwnI w.heap.size wr (.slice g' (rsB R k).length c') (rsB R k)/\Below w.heap.size w wr):=⟨g,c,rfl,HI.out⟩;clear HI HC;go_wp2;go_ret
   exact HE.out
end
def usF (R:List Bool) (i:Nat):Bool:=decide (i<2)||R.getD i false
def usK (R:List Bool) (k:Nat):List Int:=bitsP (fun i=>decide (i<k)&&usF R i) R.length
theorem usK_all {R:List Bool} (h:2<=R.length):usK R R.length=usedL R:=bitsP_ext fun i _=>by
 by_cases h1:i<R.length
 ·simp [h1,usF]
 ·rw [jA,qC (by omega)];have h2:¬i<2:=by omega
  simp [h1,h2]
theorem usK_yes {R:List Bool} {k:Nat} (h:k<R.length) (hu:usF R k=true):usK R (k+1)=(usK R k).set (k/8) (bits .or .u8 ((usK R k).getD (k/8) 0) (2^(k%8)%256)):=
 (bitsP_or h (by show (decide (k<k+1)&&_)=true;rw [hu];simp) fun i hi=>by
  show (decide (i<k+1)&&_)=(decide (i<k)&&_)
  congr 1
  exact decide_eq_decide.2 (by omega)).symm
theorem usK_no {R:List Bool} {k:Nat} (hu:usF R k=false):usK R (k+1)=usK R k:=bitsP_ext fun i _=>by
 by_cases e:i=k
 ·subst e;rw [hu];simp
 ·congr 1
  exact decide_eq_decide.2 (by omega)
theorem usK_zero (R:List Bool):usK R 0=List.replicate ((R.length+7)/8) 0:=by
 unfold usK;rw [<-bitsP_none];exact bitsP_ext fun i _=>by simp
section
variable {w:World} {p d:Nat} {F FD:Nat->Prop} {D0:Dv} {L:List Int} {vM:Value} {R:List Bool} {cs:List Int}
set_option maxRecDepth 20000 in
theorem used0 (h:W0A w p d F FD D0 L vM R cs) (nb:Nat) (hnb:(R.length+7)/8=nb):
  Calls Tryz.prog 195 #[.pointer (some ⟨p,0,none⟩)] w fun e w'=>∃g,e=.returned (.slice (some ⟨g,0,none⟩) nb nb)/\Own w.heap.size w' (.slice (some ⟨g,0,none⟩) nb nb) (usedL R)/\Below w.heap.size w w':=by
 obtain ⟨i0,hi0,hz0,hz1,hz2⟩:=info_parts info5;have hrn:=h.rn;obtain ⟨gr,cr,aC,cC,h⟩:=h;have c1:=h.at.2.1;have hcap:=h.rch.cap;obtain ⟨N,hN⟩:∃N,R.length=N:=⟨_,rfl⟩;have HC:Hid (∀k,k<N->w.cell? ⟨gr,k,none⟩=some (.bool (R.getD k false))):=fun k hk=>(ownL_at h.rch k (by omega)).2.1
 have HG:Hid (gr<w.heap.size/\p<w.heap.size):=⟨hcap.2.2.2.1,h.lt p h.fp⟩;have hN4:N<=4096:=by omega
 have HN:Hid (R.length=N/\8<=N/\(N+7)/8=nb):=⟨hN,by omega,by omega⟩;have hq:((N:Int)+7)/8=(nb:Int):=by omega
 rw [hN] at c1;have hcr:N<=cr:=by omega
 have hcr2:=hcap.2.2.1;unfold maxLen at hcr2;have hm:nb<=maxLen:=by unfold maxLen;omega
 have hnb1:nb<=513:=by omega
 clear h hrn hcap hN hnb;go_enter Tryz.func195,Tryz.ntmps195
 go_wp2_with (at_make;refine wpList_make_full _ rfl _ _ 32 rfl w.heap.size 5 i0 (.int .u8 0) 1 Tryz.underlying32 hi0 hz0 hz1 .i64 .i64 _ _ nb rfl rfl hq hq (by rw [hz2];omega) hm (jB _) ?_;intro w1 hown1 hgrow1;have HO:Hid (Own w.heap.size w1 (.slice (some ⟨w.heap.size,0,none⟩) nb nb) (usK R 0)/\Below w.heap.size w w1):=⟨(by rw [usK_zero,HN.out.1,HN.out.2.2];exact made_own hown1),(Below.refl _ w).grown hgrow1 (jB _) (by simp)⟩;have c1':=(HO.out.2.cell (p:=⟨p,1,none⟩) HG.out.2).trans c1;clear hown1 hgrow1 hm c1 hq)
 go_loopg [19] N (fun gh i wr=>∃k:Nat,k<=N/\gh=N-k/\i=.int .i64 k/\Hid (Own w.heap.size wr (.slice (some ⟨w.heap.size,0,none⟩) nb nb) (usK R k)/\Below w.heap.size w wr))
 case atStart=>exact ⟨0,jU _,rfl,rfl,HO.out⟩
 case round=>
  clear HO;obtain ⟨k,hk,hgk,rfl,HI⟩:=hrel;have HGK:Hid (gk=N-k):=hgk;clear hgk;by_cases hlt:k<N
  ·have ck:=(HI.out.2.cell (p:=⟨gr,k,none⟩) HG.out.1).trans (HC.out k hlt);obtain ⟨-,b1,b2,hst⟩:=own_at' HI.out.1 (k/8) (by show _<(bitsP _ _).length;rw [bitsP_len];have:=HN.out;omega);have hyb:=(bitsP_bys (fun i=>decide (i<k)&&usF R i) R.length).at (k/8);have hyn:usF R k=true->usK R (k+1)=_:=usK_yes (by have:=HN.out.1;omega);have hno:usF R k=false->usK R (k+1)=usK R k:=usK_no;obtain ⟨b,hb⟩:∃b,R.getD k false=b:=⟨_,rfl⟩;rw [hb] at ck;have HB:Hid (R.getD k false=b):=hb;have hjl:k/8<nb:=by have:=HN.out.2.2;omega
   change 0<=(usK R k).getD (k/8) 0/\(usK R k).getD (k/8) 0<=255 at hyb
   obtain ⟨y,hy⟩:∃y,(usK R k).getD (k/8) 0=y:=⟨_,rfl⟩;rw [hy] at b1 hyn hyb;have hgne:¬gr=w.heap.size:=by have:=HG.out.1;omega
   have hpne:¬p=w.heap.size:=by have:=HG.out.2;omega
   obtain ⟨j,hj⟩:∃j,k/8=j:=⟨_,rfl⟩;have hkj:((k:Int)/8)=(j:Int):=by omega
   rw [hj] at b1 b2 hst hyn hjl;obtain ⟨r,hr⟩:∃r,k%8=r:=⟨_,rfl⟩;have hkr:((k:Int)%8)=(r:Int):=by omega
   have hr8:r<8:=by omega
   rw [hr] at hyn;have HS:Hid _:=hst;have HY:Hid _:=hyn;have HNo:Hid _:=hno;clear hst hyn hno hy hj hr hb;cases b with
   |true=>
    go_wp2;go_region
    go_wp2;go_roundg (N-(k+1))
    case rel=>exact ⟨k+1,by omega,rfl,by go_num,(by show _/\_;rw [HY.out (by unfold usF;rw [HB.out];simp)];exact ⟨HS.out _,(HI.out.2.setCell (jB _) _).drew⟩)⟩
    case measure=>have:=HGK.out;omega
   |false=>
    by_cases h2:k<2
    ·have h2i:decide ((k:Int)<2)=true:=jE (by omega);go_wp2;go_region
     go_wp2;go_roundg (N-(k+1))
     case rel=>exact ⟨k+1,by omega,rfl,by go_num,(by show _/\_;rw [HY.out (by unfold usF;rw [jE h2];rfl)];exact ⟨HS.out _,(HI.out.2.setCell (jB _) _).drew⟩)⟩
     case measure=>have:=HGK.out;omega
    ·have h2i:decide ((k:Int)<2)=false:=jH (by omega);have HU:Hid (usK R (k+1)=usK R k):=HNo.out (by unfold usF;rw [jH h2,HB.out];rfl);go_wp2;go_roundg (N-(k+1))
     case rel=>exact ⟨k+1,by omega,rfl,by go_num,(by show _/\_;rw [HU.out];exact HI.out)⟩
     case measure=>have:=HGK.out;omega
  ·obtain rfl:k=N:=by omega
   have HE:Hid (∃g,Ending.returned (.slice (some ⟨w.heap.size,0,none⟩) nb nb)=.returned (.slice (some ⟨g,0,none⟩) nb nb)/\Own w.heap.size wr (.slice (some ⟨g,0,none⟩) nb nb) (usedL R)/\Below w.heap.size w wr):=⟨_,rfl,(by rw [<-usK_all (by have:=HN.out;omega),HN.out.1];exact HI.out.1),HI.out.2⟩;clear HI HC;go_wp2;go_ret
   exact HE.out
end
end Go.Proofs.YtaijfhadecennaaGreat.Oct
