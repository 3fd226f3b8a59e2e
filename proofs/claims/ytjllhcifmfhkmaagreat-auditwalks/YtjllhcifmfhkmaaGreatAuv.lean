/- Part of a proof. -/
import Derived.Test.YtjllhcifmfhkmaaGreatAur
import Derived.Test.YtjllhcifmfhkmaaGreatUb
import Derived.RegionTactic
import Derived.BigRegion
import Derived.ChangeAlike
import Derived.Defers
import Derived.Recover
import Derived.Test.YtjllhcifmfhkmaaGreatR
import Derived.Test.YtjllhcifmfhkmaaGreatKa
import Derived.Test.YtjllhcifmfhkmaaGreatQk
import Derived.Test.YtjllhcifmfhkmaaGreatBq
import Derived.Deep.LoopGhost
import Derived.Test.YtjllhcifmfhkmaaGreatKe
import Derived.Test.YtjllhcifmfhkmaaGreatYa
import Derived.Test.YtjllhcifmfhkmaaGreatAum
set_option maxHeartbeats 4000000
namespace Go.Proofs.YtjllhcifmfhkmaaGreat.Oct
open Go.RowKit
attribute [local go_sem ↓] StP_eq LdP_eq
theorem survey_any {w:World} {d N:Nat} {FD:Nat→Prop} {D0:Dv} {L:List Int} (hd:Dev w d FD D0) (hL:D0.now=L) (hN:D0.n=N) (hops:D0.ops≤1000000000000) (S:Sp) (hS:okS S=true):
  Calls Tryz.prog 29 #[.pointer (some ⟨d,0,none⟩),spV S] w fun e w'=>SvE w d FD D0 L N S e w':=by
 by_cases hp:S.p=(N:Int)
 ·exact survey_p hd hL hN hops S hS hp
 ·refine (survey_pages hd hN S hp).mono ?_;rintro e w' ⟨rfl,hb⟩;refine .inr (.inl ⟨rfl,fun r hr=>hp ?_,0,FD,Nat.zero_le _,hd.below hb,fun j hj=>absurd hj (Nat.not_lt_zero _),Step.ofB hb⟩);have h1:=hd.1.now;rw [hL] at h1
  have:pgN L=N:=by
   unfold pgN;omega
  rw [hr.1,this]
def ErrA (w:World) (q:Nat) (x:Int):Prop:=w.heap[q]?=some (.cells #[.int .i64 x] 24 (0,0))
theorem ErrA.at {w:World} {q:Nat} {x:Int} (h:ErrA w q x):w.cell? ⟨q,0,none⟩=some (.int .i64 x)∧w.frozen? ⟨q,0,none⟩=false:=by
 unfold ErrA at h;refine ⟨?_,?_⟩
 ·rw [cell_of_row w q _ _ _ (0,0) h];rfl
 ·unfold World.frozen?;rw [h];simp
theorem ErrA.set {w:World} {q:Nat} {x:Int} (h:ErrA w q x) (y:Int):ErrA (w.setCell ⟨q,0,none⟩ (.int .i64 y)) q y:=by unfold ErrA;rw [setCell_heap _ _ _ _ _ _ _ h];rfl
theorem as_errA (v:Value) (w:World):(Instr.typeAssert (.iface 24 v) 20 24 false).run Tryz.prog w=.ok v w:=by kernel_rfl
theorem rpt0_lit:rpt0= #[.int .i64 0,.int .i64 0,.int .i64 0,.int .i64 0,.int .i64 0,.int .i64 0,.int .i64 0,.int .i64 0,.int .i64 0,.slice none 0 0,.slice none 0 0,.slice none 0 0,.slice none 0 0]:=rfl
set_option maxRecDepth 8000 in
theorem wcatch_pan {rb eb:Nat} {old:Array Value} {x:Int} (k:Int) (older:List PanicEntry) {w:World} (hr:w.heap[rb]?=some (.cells old 33 (0,0))) (ho:old.size=13) (he:ErrA w eb x) (hne:¬eb=rb):
  CallsD Tryz.prog 28 #[.pointer (some ⟨rb,0,none⟩),.pointer (some ⟨eb,0,none⟩)] (.panicking ({v:=.iface 24 (.int .i64 k),recovered:=false}::older)) w fun e u' w'=>
   e=.returned (.tuple #[])∧u'=.panicking ({v:=.iface 24 (.int .i64 k),recovered:=true}::older)∧w'=(w.drew.setRow rb rpt0).setCell ⟨eb,0,none⟩ (.int .i64 k):=by
 have hst:=StP_run (w:=w.drew) (cs:=rpt0) hr ho rfl (by rw [rpt0_lit];simp [Value.oneCell']);have he2:ErrA (w.drew.setRow rb rpt0) eb x:=(setRow_other w.drew rb eb rpt0 hne).trans he;obtain ⟨c0,f0⟩:=he2.at;rw [rpt0_lit] at hst c0 f0 ⊢;refine callsD_of_wpS Tryz.func28 rfl fun c₀ cs hu=>?_
 apply wpS_seq;apply wpS_region;simp [wpOpsS,go_sem,recoverD,hu,Tryz.ntmps28,Exit.thenS];apply wpS_seq;apply wpS_region;simp [wpOpsS,go_sem,Exit.thenS];refine wpS_cond (t:=true) (by simp [Act.eval,Array.replicate]) ?_;simp only [if_true];have has:=as_errA;refine wpS_of_wp ?_;simp [Array.replicate];go_region
 simp [bodyPostS,results,Tryz.results28]
theorem wcatch_no (rb eb:Nat) (w:World):
  CallsD Tryz.prog 28 #[.pointer (some ⟨rb,0,none⟩),.pointer (some ⟨eb,0,none⟩)] .returning w fun e u' w'=>e=.returned (.tuple #[])∧u'=.returning∧w'=w:=by
 refine callsD_of_wpS Tryz.func28 rfl fun c₀ cs hu=>?_
 apply wpS_seq;apply wpS_region;simp [wpOpsS,go_sem,recoverD,hu,Tryz.ntmps28,Exit.thenS];apply wpS_seq;apply wpS_region;simp [wpOpsS,go_sem,Exit.thenS];refine wpS_cond (t:=false) (by simp [Act.eval,Array.replicate]) ?_;simp only [Bool.false_eq_true,if_false];refine wpS_of_wp (wp_skip ?_);cases c₀
 simp_all [bodyPostS,results,Tryz.results28]
theorem results_rc {fn:Func} {p q:Tmp} (h:fn.results= #[.cell p 33,.cell q 24]) (tmps:Array Value) (w:World) (g e:Nat) (cs:Array Value) (k:Int)
  (hp:tmps.getD p undef=.pointer (some ⟨g,0,none⟩)) (hq:tmps.getD q undef=.pointer (some ⟨e,0,none⟩)) (hg:w.heap[g]?=some (.cells cs 33 (0,0))) (hc:cs.size=13) (he:ErrA w e k):
  (results fn tmps).run Tryz.prog w=.ok (.tuple #[.agg cs,.int .i64 k]) w:=by
 have h1:=run_loadVar_row (P:=Tryz.prog) w g 33 33 cs (0,0) _ hg Tryz.underlying33 rfl (by rw [hc];kernel_rfl);have h2:=he.at.1;have hp':tmps[p]?.getD undef=.pointer (some ⟨g,0,none⟩):=by simpa using hp
 have hq':tmps[q]?.getD undef=.pointer (some ⟨e,0,none⟩):=by simpa using hq
 simp [results,h,hp',hq',asAddr,h1];simp [go_sem,h2]
def WlE (w:World) (d:Nat) (FD:Nat→Prop) (D0:Dv) (L:List Int) (N:Nat) (S:Sp) (e:Ending) (w':World):Prop:=
 (okS S=false∧e=.returned (.tuple #[.agg rpt0,.int .i64 1])∧Below w.heap.size w w')∨
 (okS S=true∧((∃r v,e=.returned (.tuple #[v,.int .i64 0])∧Su L S r∧∃k FD',RepP FD' (fun k=>FD k∨w.heap.size≤k) w' v r∧k≤N∧Dev w' d FD' (rdK D0 k)∧(∀j,j<k→tellsD (rdK D0 j)=true)∧Step FD FD' w w')∨
  (e=.returned (.tuple #[.agg rpt0,.int .i64 8])∧(∀r,¬Su L S r)∧∃k FD',k≤N∧Dev w' d FD' (rdK D0 k)∧(∀j,j<k→tellsD (rdK D0 j)=true)∧Step FD FD' w w')∨
  (e=.returned (.tuple #[.agg rpt0,.int .i64 7])∧∃k FD',k<N∧Dev w' d FD' (rdK D0 (k+1))∧(∀j,j<k→tellsD (rdK D0 j)=true)∧tellsD (rdK D0 k)=false∧Step FD FD' w w')))
def bxW (w:World) (S:Sp):World:=((w.alloc (.cells #[.int .i64 S.g,.int .i64 S.p,.int .i64 S.r,.int .i64 S.h,.int .i64 S.b,.int .i64 S.l,.int .i64 S.s,.int .i64 S.f] 28)).alloc (.cells #[.int .i64 0,.int .i64 0,.int .i64 0,.int .i64 0,.int .i64 0,.int .i64 0,.int .i64 0,.int .i64 0,.int .i64 0,.slice none 0 0,.slice none 0 0,.slice none 0 0,.slice none 0 0] 33)).alloc (.cells #[.int .i64 0] 24)
theorem bxW_all (w:World) (S:Sp):(bxW w S).heap.size=w.heap.size+3∧(bxW w S).heap[w.heap.size]?=some (.cells (spC' S) 28 (0,0))∧(bxW w S).heap[w.heap.size+1]?=some (.cells rpt0 33 (0,0))∧ErrA (bxW w S) (w.heap.size+1+1) 0∧Below w.heap.size w (bxW w S):=by
 refine ⟨by simp [bxW],?_,?_,?_,?_⟩
 ·unfold bxW;rw [heap_alloc_old _ _ (by simp;omega)];exact heap_alloc2_old w _ _
 ·unfold bxW;rw [heap_alloc_old _ _ (by simp)];exact heap_alloc2_new w _ _
 ·unfold bxW ErrA;have:=heap_alloc_new ((w.alloc (.cells #[.int .i64 S.g,.int .i64 S.p,.int .i64 S.r,.int .i64 S.h,.int .i64 S.b,.int .i64 S.l,.int .i64 S.s,.int .i64 S.f] 28)).alloc (.cells #[.int .i64 0,.int .i64 0,.int .i64 0,.int .i64 0,.int .i64 0,.int .i64 0,.int .i64 0,.int .i64 0,.int .i64 0,.slice none 0 0,.slice none 0 0,.slice none 0 0,.slice none 0 0] 33)) (.cells #[.int .i64 0] 24)
  simpa using this
 ·unfold bxW;exact (((Below.refl _ w).alloc (Nat.le_refl _) _).alloc (by simp) _).alloc (by simp;omega) _
theorem both_set {w1:World} {rb eb:Nat} {old cs:Array Value} {x:Int} (hr:w1.heap[rb]?=some (.cells old 33 (0,0))) (ho:old.size=13) (hc:cs.size=13) (h1:cs.all (·.oneCell')=true) (he:ErrA w1 eb x) (hne:¬eb=rb) (k:Int):
  (StP (.pointer (some ⟨rb,0,none⟩)) (.agg cs)).run Tryz.prog w1=.ok () (w1.setRow rb cs)∧((w1.setRow rb cs).cell? ⟨eb,0,none⟩=some (.int .i64 x)∧(w1.setRow rb cs).frozen? ⟨eb,0,none⟩=false)∧((w1.setRow rb cs).setCell ⟨eb,0,none⟩ (.int .i64 k)).heap[rb]?=some (.cells cs 33 (0,0))∧ErrA ((w1.setRow rb cs).setCell ⟨eb,0,none⟩ (.int .i64 k)) eb k∧Ch w1.heap.size (fun x=>x=rb∨x=eb) w1 ((w1.setRow rb cs).setCell ⟨eb,0,none⟩ (.int .i64 k)):=by
 have he2:ErrA (w1.setRow rb cs) eb x:=(setRow_other w1 rb eb cs hne).trans he;refine ⟨StP_run hr ho hc h1,he2.at,?_,he2.set k,((Ch.refl _ (fun x=>x=rb∨x=eb) w1).setRow (.inr (.inl rfl)) cs).setCell (p:=⟨eb,0,none⟩) (.inr (.inr rfl)) _⟩;rw [Below.heap_setCell _ _ _ _ (fun e=>hne e.symm)];exact setRow_heap w1 _ _ _ _ _ hr
set_option maxRecDepth 20000 in
theorem walk_arg {w:World} {d:Nat} (S:Sp) (hS:okS S=false):
  Calls Tryz.prog 12 #[.pointer (some ⟨d,0,none⟩),spV S] w fun e w'=>e=.returned (.tuple #[.agg rpt0,.int .i64 1])∧Below w.heap.size w w':=by
 have hck:= @check_v S;have hE:enE S=1:=by unfold enE;rw [hS];rfl
 unfold spV at hck ⊢;have hmf:∀(fn:Fn) (first cap:Array Value) (w:World),(Instr.makeFunc fn first cap).run Tryz.prog w=.ok (.func fn first cap) w:=fun _ _ _ _=>rfl
 obtain ⟨b0,b1,b2,b3,b4⟩:=bxW_all w S;have HB:Hid ((bxW w S).heap.size=w.heap.size+3∧(bxW w S).heap[w.heap.size+1]?=some (.cells rpt0 33 (0,0))∧ErrA (bxW w S) (w.heap.size+1+1) 0∧Below w.heap.size w (bxW w S)):=⟨b0,b2,b3,b4⟩;clear b0 b1 b2 b3 b4;go_enter_defers Tryz.func12,Tryz.ntmps12
 go_wp2_with fail
 refine (hck (bxW w S) 1 hE).mono ?_;clear hck hE;rintro e w1 ⟨rfl,hb1⟩;obtain ⟨h1,h2,h3,h4,h5⟩:=both_set (w1:=w1) (cs:=rpt0) ((hb1.block _ (by have:=HB.out.1;omega)).trans HB.out.2.1) rfl rfl (by rw [rpt0_lit];simp [Value.oneCell']) ((hb1.block (w.heap.size+1+1) (by have:=HB.out.1;omega)).trans HB.out.2.2.1) (by omega) 1
 have HE:Hid (((w1.setRow (w.heap.size+1) rpt0).setCell ⟨w.heap.size+1+1,0,none⟩ (.int .i64 1)).heap[w.heap.size+1]?=some (.cells rpt0 33 (0,0))∧ErrA ((w1.setRow (w.heap.size+1) rpt0).setCell ⟨w.heap.size+1+1,0,none⟩ (.int .i64 1)) (w.heap.size+1+1) 1∧Below w.heap.size w ((w1.setRow (w.heap.size+1) rpt0).setCell ⟨w.heap.size+1+1,0,none⟩ (.int .i64 1))):=by
  refine ⟨h3,h4,(HB.out.2.2.2.trans (hb1.mono HB.out.2.2.2.size)).trans ⟨h5.os,h5.tape,h5.output,h5.size,fun i hi=>h5.block i ?_ ?_⟩⟩
  ·have:=HB.out.1;have:=hb1.size;omega
  ·omega
 rw [rpt0_lit] at h1 h2 HE;obtain ⟨c0,f0⟩:=h2;clear h3 h4 h5 hb1 HB;go_wp2;exact ⟨_,results_rc rfl _ _ (w.heap.size+1) (w.heap.size+1+1) _ 1 rfl rfl HE.out.1 rfl HE.out.2.1,rfl,HE.out.2.2⟩
theorem RepP.keep {F G G':Nat→Prop} {w w':World} {v:Value} {R:Rp} (h:RepP F G w v R) (hs:w.heap.size≤w'.heap.size) (k:∀g,G g→¬F g→g<w.heap.size→w'.heap[g]?=w.heap[g]?) (hG:∀g,G g→G' g):RepP F G' w' v R:=by
 obtain ⟨aP,cP,aT,cT,aS,cS,aG,cG,e,h1,h2,h3,h4,h5⟩:=h;refine ⟨aP,cP,aT,cT,aS,cS,aG,cG,e,h1.keepO (fun g hg=>?_),h2.keepO (fun g hg=>?_),h3.keepO (fun g hg=>?_),h4.keepO' (fun g hg=>?_),fun g hg=>⟨⟨(h5 g hg).1.1,Nat.lt_of_lt_of_le (h5 g hg).1.2 hs⟩,hG g (h5 g hg).2⟩⟩
 ·have:=h5 g (.inl hg);exact k g this.2 this.1.1 this.1.2
 ·have:=h5 g (.inr (.inl hg));exact k g this.2 this.1.1 this.1.2
 ·have:=h5 g (.inr (.inr (.inl hg)));exact k g this.2 this.1.1 this.1.2
 ·have:=h5 g (.inr (.inr (.inr hg)));exact k g this.2 this.1.1 this.1.2
theorem walk_fin {w w1 w2 w3:World} {d rb eb:Nat} {FD FD':Nat→Prop} {D:Dv} (hw:w.heap.size≤rb∧w.heap.size≤eb) (hb:Below w.heap.size w w1) (hl:rb<w1.heap.size∧eb<w1.heap.size) (hF:∀k,FD k→k<w.heap.size) (hd:Dev w2 d FD' D) (st:Step FD FD' w1 w2) (hc:Ch w2.heap.size (fun x=>x=rb∨x=eb) w2 w3):Dev w3 d FD' D∧Step FD FD' w w3:=by
 have hbs:=hb.size
 have hn:∀k,FD' k→¬(k=rb∨k=eb):=fun k hk e=>by
  rcases st.2 k hk with h|h
  ·have:=hF k h;omega
  ·omega
 refine ⟨hd.keep hc.size (fun g hg=>hc.block g (hd.2.1 g hg) (hn g hg)),?_,fun k hk=>?_⟩
 ·exact ((Ch.of FD hb).trans (st.1.mono hbs (fun _ _ h=>h))).trans ⟨hc.os,hc.tape,hc.output,hc.size,fun i hi _=>hc.block i (by have:=st.1.size;omega) (by omega)⟩
 ·rcases st.2 k hk with h|h
  ·exact .inl h
  ·right;omega
set_option maxRecDepth 20000 in
theorem walk_ok {w:World} {d N:Nat} {FD:Nat→Prop} {D0:Dv} {L:List Int} (hd:Dev w d FD D0) (hL:D0.now=L) (hN:D0.n=N) (hops:D0.ops≤1000000000000) (S:Sp) (hS:okS S=true):
  Calls Tryz.prog 12 #[.pointer (some ⟨d,0,none⟩),spV S] w fun e w'=>WlE w d FD D0 L N S e w':=by
 have hck:= @check_v S;have hE:enE S=0:=by unfold enE;rw [hS];rfl
 have hmf:∀(fn:Fn) (first cap:Array Value) (w:World),(Instr.makeFunc fn first cap).run Tryz.prog w=.ok (.func fn first cap) w:=fun _ _ _ _=>rfl
 obtain ⟨b0,b1,b2,b3,b4⟩:=bxW_all w S;have HB:Hid ((bxW w S).heap.size=w.heap.size+3∧(bxW w S).heap[w.heap.size+1]?=some (.cells rpt0 33 (0,0))∧ErrA (bxW w S) (w.heap.size+1+1) 0∧Below w.heap.size w (bxW w S)∧(bxW w S).heap[w.heap.size]?=some (.cells (spC' S) 28 (0,0))):=⟨b0,b2,b3,b4,b1⟩;have HD:Hid (Dev w d FD D0∧D0.now=L∧D0.n=N∧D0.ops≤1000000000000∧okS S=true):=⟨hd,hL,hN,hops,hS⟩;clear b0 b1 b2 b3 b4 hd hL hN hops hS;unfold spV at hck ⊢;go_enter_defers Tryz.func12,Tryz.ntmps12
 go_wp2_with fail
 refine (hck (bxW w S) 0 hE).mono ?_;clear hck hE;rintro e w1 ⟨rfl,hb1⟩
 have H1:Hid (Below w.heap.size w w1∧w1.heap[w.heap.size]?=some (.cells (spC' S) 28 (0,0))∧w1.heap[w.heap.size+1]?=some (.cells rpt0 33 (0,0))∧ErrA w1 (w.heap.size+1+1) 0∧w.heap.size+3≤w1.heap.size):=by
  have:=HB.out.1;have:=hb1.size;exact ⟨HB.out.2.2.2.1.trans (hb1.mono HB.out.2.2.2.1.size),(hb1.block _ (by omega)).trans HB.out.2.2.2.2,(hb1.block _ (by omega)).trans HB.out.2.1,(hb1.block (w.heap.size+1+1) (by omega)).trans HB.out.2.2.1,by omega⟩
 have hsv:=survey_any (HD.out.1.below (w':=w1) (H1.out.1)) HD.out.2.1 HD.out.2.2.1 HD.out.2.2.2.1 S HD.out.2.2.2.2;unfold spV at hsv;have hc:∀i,w1.cell? ⟨w.heap.size,i,none⟩=(spC' S)[i]?:=fun i=>cell_of_row w1 _ _ _ _ (0,0) H1.out.2.1
 have s0:w1.cell? ⟨w.heap.size,0,none⟩=some (.int .i64 S.g):=by rw [hc];rfl
 have s1:w1.cell? ⟨w.heap.size,1,none⟩=some (.int .i64 S.p):=by rw [hc];rfl
 have s2:w1.cell? ⟨w.heap.size,2,none⟩=some (.int .i64 S.r):=by rw [hc];rfl
 have s3:w1.cell? ⟨w.heap.size,3,none⟩=some (.int .i64 S.h):=by rw [hc];rfl
 have s4:w1.cell? ⟨w.heap.size,4,none⟩=some (.int .i64 S.b):=by rw [hc];rfl
 have s5:w1.cell? ⟨w.heap.size,5,none⟩=some (.int .i64 S.l):=by rw [hc];rfl
 have s6:w1.cell? ⟨w.heap.size,6,none⟩=some (.int .i64 S.s):=by rw [hc];rfl
 have s7:w1.cell? ⟨w.heap.size,7,none⟩=some (.int .i64 S.f):=by rw [hc];rfl
 clear hc hb1 HB;go_wp2_with fail
 refine hsv.mono ?_;clear hsv s0 s1 s2 s3 s4 s5 s6 s7;rintro e w2 (⟨r,v,rfl,hsu,k,FD',hrep,hk,hdv,htold,hst⟩|hbad)
 ·obtain ⟨aP,cP,aT,cT,aS,cS,aG,cG,rfl,hrest⟩:=id hrep;obtain ⟨cs,hcs⟩:∃cs,rpP r.s r.pl (.slice aP r.pc.length cP) (.slice aT r.tx.length cT) (.slice aS r.st.length cS) (.slice aG r.pg.length cG)=cs:=⟨_,rfl⟩;have hcl:cs.size=13:=by rw [←hcs];rfl
  have hc1:cs.all (·.oneCell')=true:=by rw [←hcs];exact rpP_one ..
  rw [hcs] at hrep ⊢;have hFl:=HD.out.1.2.1;have hs1:=H1.out.2.2.2.2;have hn1:¬FD (w.heap.size+1):=fun h=>by have:=hFl _ h;omega
  have hn2:¬FD (w.heap.size+1+1):=fun h=>by have:=hFl _ h;omega
  obtain ⟨h1,⟨c0,f0⟩,h3,h4,h5⟩:=both_set (w1:=w2) (cs:=cs) ((hst.1.block _ (by omega) hn1).trans H1.out.2.2.1) rfl hcl hc1 ((hst.1.block (w.heap.size+1+1) (by omega) hn2).trans H1.out.2.2.2.1) (by omega) 0
  have HE:Hid (((w2.setRow (w.heap.size+1) cs).setCell ⟨w.heap.size+1+1,0,none⟩ (.int .i64 0)).heap[w.heap.size+1]?=some (.cells cs 33 (0,0))∧ErrA ((w2.setRow (w.heap.size+1) cs).setCell ⟨w.heap.size+1+1,0,none⟩ (.int .i64 0)) (w.heap.size+1+1) 0∧WlE w d FD D0 L N S (.returned (.tuple #[.agg cs,.int .i64 0])) ((w2.setRow (w.heap.size+1) cs).setCell ⟨w.heap.size+1+1,0,none⟩ (.int .i64 0))):=by
   obtain ⟨q1,q2⟩:=walk_fin (w:=w) (w1:=w1) (by omega) H1.out.1 (by omega) hFl hdv hst h5;refine ⟨h3,h4,.inr ⟨HD.out.2.2.2.2,.inl ⟨r,.agg cs,rfl,hsu,k,FD',?_,hk,q1,htold,q2⟩⟩⟩;refine hrep.keep h5.size (fun g hg _ hl=>h5.block g hl (fun e=>?_)) (fun g hg=>?_)
   ·rcases hg with h|h
    ·have:=hFl g h;omega
    ·omega
   ·rcases hg with h|h
    ·exact .inl h
    ·right;omega
  have HCL:Hid (cs.size=13):=hcl;clear h3 h4 h5 hrep hrest hdv hst hsu htold hk hcs hcl hc1 hn1 hn2;go_wp2;refine leaves_cons (f:=28) (args:= #[.pointer (some ⟨w.heap.size+1,0,none⟩),.pointer (some ⟨w.heap.size+1+1,0,none⟩)]) (by simp) (by simp [go_sem]) ?_;refine (wcatch_no (w.heap.size+1) (w.heap.size+1+1) _).mono ?_;rintro e u' w'' ⟨rfl,rfl,rfl⟩;exact ⟨_,results_rc rfl _ _ (w.heap.size+1) (w.heap.size+1+1) _ 0 rfl rfl HE.out.1 HCL.out HE.out.2.1,HE.out.2.2⟩
 ·have hFl:=HD.out.1.2.1;have hs1:=H1.out.2.2.2.2;have hn1:¬FD (w.heap.size+1):=fun h=>by have:=hFl _ h;omega
  have hn2:¬FD (w.heap.size+1+1):=fun h=>by have:=hFl _ h;omega
  have key:∀kk:Int,Ch w1.heap.size FD w1 w2→(w2.heap[w.heap.size+1]?=some (.cells rpt0 33 (0,0))∧ErrA w2 (w.heap.size+1+1) 0)∧((w2.drew.setRow (w.heap.size+1) rpt0).setCell ⟨w.heap.size+1+1,0,none⟩ (.int .i64 kk)).heap[w.heap.size+1]?=some (.cells rpt0 33 (0,0))∧ErrA ((w2.drew.setRow (w.heap.size+1) rpt0).setCell ⟨w.heap.size+1+1,0,none⟩ (.int .i64 kk)) (w.heap.size+1+1) kk∧Ch w2.heap.size (fun x=>x=w.heap.size+1∨x=w.heap.size+1+1) w2 ((w2.drew.setRow (w.heap.size+1) rpt0).setCell ⟨w.heap.size+1+1,0,none⟩ (.int .i64 kk)):=fun kk hc=>by
   have hr:=(hc.block _ (by omega) hn1).trans H1.out.2.2.1;have he:ErrA w2 (w.heap.size+1+1) 0:=(hc.block (w.heap.size+1+1) (by omega) hn2).trans H1.out.2.2.2.1;obtain ⟨-,-,h3,h4,h5⟩:=both_set (w1:=w2.drew) (cs:=rpt0) hr rfl rfl (by rw [rpt0_lit];simp [Value.oneCell']) he (by omega) kk;exact ⟨⟨hr,he⟩,h3,h4,(Ch.refl _ _ w2).drew.trans h5⟩
  rcases hbad with ⟨rfl,hno,k,FD',hk,hdv,htold,hst⟩|⟨rfl,k,FD',hk,hdv,htold,hnot,hst⟩
  ·obtain ⟨⟨hr,he⟩,h3,h4,h5⟩:=key 8 hst.1;obtain ⟨q1,q2⟩:=walk_fin (w:=w) (w1:=w1) (by omega) H1.out.1 (by omega) hFl hdv hst h5;have HE:Hid (((w2.drew.setRow (w.heap.size+1) rpt0).setCell ⟨w.heap.size+1+1,0,none⟩ (.int .i64 8)).heap[w.heap.size+1]?=some (.cells rpt0 33 (0,0))∧ErrA ((w2.drew.setRow (w.heap.size+1) rpt0).setCell ⟨w.heap.size+1+1,0,none⟩ (.int .i64 8)) (w.heap.size+1+1) 8∧WlE w d FD D0 L N S (.returned (.tuple #[.agg rpt0,.int .i64 8])) ((w2.drew.setRow (w.heap.size+1) rpt0).setCell ⟨w.heap.size+1+1,0,none⟩ (.int .i64 8))):=⟨h3,h4,.inr ⟨HD.out.2.2.2.2,.inr (.inl ⟨rfl,hno,k,FD',hk,q1,htold,q2⟩)⟩⟩;clear key h3 h4 h5 q1 q2 hdv htold hst hno hk;unfold thrA;go_wp2;refine leaves_cons (f:=28) (args:= #[.pointer (some ⟨w.heap.size+1,0,none⟩),.pointer (some ⟨w.heap.size+1+1,0,none⟩)]) (by simp) (by simp [go_sem]) ?_;refine (wcatch_pan 8 [] hr rfl he (by omega)).mono ?_;rintro e u' w'' ⟨rfl,rfl,rfl⟩;exact ⟨_,results_rc rfl _ _ (w.heap.size+1) (w.heap.size+1+1) _ 8 rfl rfl HE.out.1 rfl HE.out.2.1,HE.out.2.2⟩
  ·obtain ⟨⟨hr,he⟩,h3,h4,h5⟩:=key 7 hst.1;obtain ⟨q1,q2⟩:=walk_fin (w:=w) (w1:=w1) (by omega) H1.out.1 (by omega) hFl hdv hst h5;have HE:Hid (((w2.drew.setRow (w.heap.size+1) rpt0).setCell ⟨w.heap.size+1+1,0,none⟩ (.int .i64 7)).heap[w.heap.size+1]?=some (.cells rpt0 33 (0,0))∧ErrA ((w2.drew.setRow (w.heap.size+1) rpt0).setCell ⟨w.heap.size+1+1,0,none⟩ (.int .i64 7)) (w.heap.size+1+1) 7∧WlE w d FD D0 L N S (.returned (.tuple #[.agg rpt0,.int .i64 7])) ((w2.drew.setRow (w.heap.size+1) rpt0).setCell ⟨w.heap.size+1+1,0,none⟩ (.int .i64 7))):=⟨h3,h4,.inr ⟨HD.out.2.2.2.2,.inr (.inr ⟨rfl,k,FD',hk,q1,htold,hnot,q2⟩)⟩⟩;clear key h3 h4 h5 q1 q2 hdv htold hst hnot hk;unfold thrA;go_wp2;refine leaves_cons (f:=28) (args:= #[.pointer (some ⟨w.heap.size+1,0,none⟩),.pointer (some ⟨w.heap.size+1+1,0,none⟩)]) (by simp) (by simp [go_sem]) ?_;refine (wcatch_pan 7 [] hr rfl he (by omega)).mono ?_;rintro e u' w'' ⟨rfl,rfl,rfl⟩;exact ⟨_,results_rc rfl _ _ (w.heap.size+1) (w.heap.size+1+1) _ 7 rfl rfl HE.out.1 rfl HE.out.2.1,HE.out.2.2⟩
end Go.Proofs.YtjllhcifmfhkmaaGreat.Oct
namespace Go.Proofs.YtjllhcifmfhkmaaGreat.Oct
open Go.RowKit
def layL (L:List Int) (k:Nat) (Z:List Int):List Int:=L.take (k*256)++(Z++L.drop (k*256+Z.length))
def layK (L:List Int) (k:Nat) (Z:List Int) (i:Nat):List Int:=L.take (k*256)++(Z.take i++L.drop (k*256+i))
theorem layK_zero (L:List Int) (k:Nat) (Z:List Int):layK L k Z 0=L:=by simp [layK]
theorem layK_all (L:List Int) (k:Nat) (Z:List Int):layK L k Z Z.length=layL L k Z:=by simp [layK,layL]
theorem layK_len {L:List Int} {k:Nat} {Z:List Int} {i:Nat} (hi:i≤Z.length) (hk:k*256+Z.length≤L.length):(layK L k Z i).length=L.length:=by
 simp only [layK,List.length_append,List.length_take,List.length_drop];omega
theorem layK_succ {L:List Int} {k:Nat} {Z:List Int} {i:Nat} (hi:i<Z.length) (hk:k*256+Z.length≤L.length):(layK L k Z i).set (k*256+i) (Z.getD i 0)=layK L k Z (i+1):=by
 unfold layK;generalize k*256=m at hk ⊢;have h1:(L.take m).length=m:=by rw [List.length_take];omega
 have h2:(Z.take i).length=i:=by rw [List.length_take];omega
 rw [List.set_append_right _ _ (by omega),h1,List.set_append_right _ _ (by omega),h2,show m+i-m-i=0 from by omega,List.drop_eq_getElem_cons (by omega:m+i<L.length),List.set_cons_zero,List.take_succ_eq_append_getElem hi,List.append_assoc,List.singleton_append,List.getD_eq_getElem?_getD,List.getElem?_eq_getElem hi,Option.getD_some,Nat.add_assoc]
theorem Own.cap' {base g n cap:Nat} {w:World} {zs:List Int} (h:Own base w (.slice (Option.some ⟨g,0,Option.none⟩) n cap) zs):n=zs.length∧n≤cap∧cap≤maxLen:=by
 rcases h.2 with ⟨e,_⟩|⟨g',cap',cur,e,_,_,h1,h2,_⟩
 ·cases e
 ·cases e;exact ⟨rfl,h1,h2⟩
set_option maxRecDepth 4000 in
theorem lay_v {w:World} {base g n cap k:Nat} {L Z:List Int} {a:Option Addr} {cz:Nat} (ho:Own base w (.slice (some ⟨g,0,none⟩) n cap) L) (hz:Row w a cz Z) (h256:Z.length=256) (hk:k*256+256≤n) (_hn:n≤1048576) (hng:∀x,a=some x→x.block≠g):
  Calls Tryz.prog 30 #[.slice (some ⟨g,0,none⟩) n cap,.int .i64 (k:Nat),.slice a 256 cz] w fun e w'=>e=.returned (.tuple #[])∧Own base w' (.slice (some ⟨g,0,none⟩) n cap) (layL L k Z)∧Ch w.heap.size (fun x=>x=g) w w':=by
 obtain ⟨b,off,rfl,hcz⟩:∃b off,a=some ⟨b,off,none⟩∧∀i,i<Z.length→w.cell? ⟨b,off+i,none⟩=some (.int .u8 (Z.getD i 0)):=by
  rcases hz.2.2.2 with h|h
  ·rw [h] at h256;simp at h256
  ·exact h
 have hbg:¬b=g:=hng _ rfl;have hb:Bys Z:=hz.1;obtain ⟨hlen,hcap,hmax⟩:=ho.cap';have hc2:=hz.2.1;have hc3:=hz.2.2.1;unfold maxLen at hmax hc3;have HB:Hid (b<w.heap.size):=block_lt_of_cell (hcz 0 (by omega));have HZ:Hid (∀i,i<256→w.cell? ⟨b,off+i,none⟩=some (.int .u8 (Z.getD i 0))):=fun i hi=>hcz i (by omega)
 have HL:Hid (Z.length=256∧k*256+256≤L.length):=⟨h256,by omega⟩;obtain ⟨m,hm⟩:∃m,k*256=m:=⟨_,rfl⟩;have HI0:Hid (Own base w (.slice (some ⟨g,0,none⟩) n cap) (layK L k Z 0)∧Ch w.heap.size (fun x=>x=g) w w):=⟨by rw [layK_zero];exact ho,Ch.refl _ _ _⟩;have hmi:(k:Int)*256=(m:Int):=by omega
 have HM:Hid (k*256=m):=hm;clear ho hz hcz hng hlen hm;go_enter Tryz.func30,Tryz.ntmps30
 go_wp2_with fail
 go_loopg [6] 256 (fun gh i wr=>∃j:Nat,j≤256∧gh=256-j∧i=.int .i64 j∧Hid (Own base wr (.slice (some ⟨g,0,none⟩) n cap) (layK L k Z j)∧Ch w.heap.size (fun x=>x=g) w wr))
 case atStart=>exact ⟨0,Nat.zero_le _,rfl,rfl,HI0.out⟩
 case round=>
  clear HI0;obtain ⟨j,hj,hgk,rfl,HI⟩:=hrel;have HGK:Hid (gk=256-j):=hgk;clear hgk;by_cases hlt:j<256
  ·have cj:=(HI.out.2.cell (p:=⟨b,off+j,none⟩) HB.out hbg).trans (HZ.out j hlt);have hyb:=hb.at j;obtain ⟨-,b1,b2,hst⟩:=own_at' HI.out.1 (m+j) (by have:=HL.out;have:=HM.out;rw [layK_len (by omega) (by omega)];omega)
   have HS:Hid (Own base (wr.setCell ⟨g,m+j,none⟩ (.int .u8 (Z.getD j 0))) (.slice (some ⟨g,0,none⟩) n cap) (layK L k Z (j+1))):=by
    have:=hst (Z.getD j 0);rw [←HM.out,layK_succ (by have:=HL.out;omega) (by have:=HL.out;omega),HM.out] at this;exact this
   have hmn:m+j<n:=by have:=HM.out;omega
   clear hst;obtain ⟨y,hy⟩:∃y,Z.getD j 0=y:=⟨_,rfl⟩;rw [hy] at cj hyb HS;clear hy;obtain ⟨x,hx⟩:∃x,(layK L k Z j).getD (m+j) 0=x:=⟨_,rfl⟩;rw [hx] at b1;clear hx;go_wp2;go_roundg (256-(j+1))
   case rel=>exact ⟨j+1,by omega,rfl,by go_num,HS.out,HI.out.2.setCell (p:=⟨g,m+j,none⟩) (.inr rfl) _⟩
   case measure=>have:=HGK.out;omega
  ·obtain rfl:j=256:=by omega
   have HE:Hid (Ending.returned (.tuple #[])=.returned (.tuple #[])∧Own base wr (.slice (some ⟨g,0,none⟩) n cap) (layL L k Z)∧Ch w.heap.size (fun x=>x=g) w wr):=⟨rfl,(by rw [←layK_all,HL.out.1];exact HI.out.1),HI.out.2⟩;clear HI HZ;go_wp2;refine bodyPost_end (results_none rfl _ _ _) rfl ?_;exact ⟨rfl,HE.out.2⟩
theorem first_v (a:Option Addr) (n c:Nat) (e:Int) (w:World):Calls Tryz.prog 31 #[.slice a n c,.int .i64 e] w fun e w'=>e=.returned (.slice a n c)∧w'=w:=by
 go_enter Tryz.func31,Tryz.ntmps31
 go_wp2;go_ret
 exact ⟨rfl,rfl⟩
theorem lines_v {w:World} {b off n c:Nat} {Z:List Int} (hz:Row w (some ⟨b,off,none⟩) c Z) (h1:1≤Z.length) (h8:Z.length≤8) (hn:Z.length=n):
  Calls Tryz.prog 33 #[.slice (some ⟨b,off,none⟩) n c] w fun e w'=>e=.returned (.int .i64 ((Z.count 10:Nat):Int))∧w'=w:=by
 obtain ⟨hb,hc2,hc3,hc⟩:=hz
 have hcz:∀i,i<Z.length→w.cell? ⟨b,off+i,none⟩=some (.int .u8 (Z.getD i 0)):=by
  rcases hc with h|⟨b',off',e,h⟩
  ·rw [h] at h1;simp at h1
  ·cases e;exact h
 unfold maxLen at hc3;have HZ:Hid (∀i,i<Z.length→w.cell? ⟨b,off+i,none⟩=some (.int .u8 (Z.getD i 0))):=hcz;have HN:Hid (Z.length=n):=hn;rw [hn] at h1 h8 hc2;clear hc hcz hn
 have HT:Hid (∀i,i<n→(Z.take (i+1)).count 10=(Z.take i).count 10+if Z.getD i 0=10 then 1 else 0):=fun i hi=>by
  have hl:i<Z.length:=by have:=HN.out;omega
  rw [List.take_succ_eq_append_getElem hl,List.count_append,List.count_singleton,List.getD_eq_getElem?_getD,List.getElem?_eq_getElem hl,Option.getD_some];simp
 have HC:Hid (∀i,(Z.take i).count 10≤i):=fun i=>Nat.le_trans List.count_le_length (by rw [List.length_take];omega)
 go_enter Tryz.func33,Tryz.ntmps33
 go_wp2_with fail
 go_loopg [3,4] n (fun gh m i wr=>∃j:Nat,j≤n∧gh=n-j∧m=.int .i64 (((Z.take j).count 10:Nat):Int)∧i=.int .i64 j∧Hid (wr=w))
 case atStart=>exact ⟨0,Nat.zero_le _,rfl,by simp,rfl,rfl⟩
 case round=>
  obtain ⟨j,hj,hgk,rfl,rfl,HI⟩:=hrel;have HGK:Hid (gk=n-j):=hgk;clear hgk;obtain rfl:=HI.out;have hcn:=HC.out j;have hct:=HT.out j;obtain ⟨x,hx⟩:∃x,(Z.take j).count 10=x:=⟨_,rfl⟩;rw [hx] at hcn hct ⊢;by_cases hlt:j<n
  ·have cj:=HZ.out j (by have:=HN.out;omega);have hyb:=hb.at j;have HX:Hid _:=hct hlt;clear hct;obtain ⟨y,hy⟩:∃y,Z.getD j 0=y:=⟨_,rfl⟩;rw [hy] at cj hyb HX;clear hy hx;by_cases h10:y=10
   ·subst h10;go_wp2;go_roundg (n-(j+1))
    case rel=>exact ⟨j+1,by omega,rfl,by rw [HX.out];go_num,by go_num,rfl⟩
    case measure=>have:=HGK.out;omega
   ·have h10':(y==10)=false:=by rw [beq_eq_false_iff_ne];exact h10
    go_wp2;go_roundg (n-(j+1))
    case rel=>exact ⟨j+1,by omega,rfl,by rw [HX.out,if_neg h10,Nat.add_zero],by go_num,rfl⟩
    case measure=>have:=HGK.out;omega
  ·obtain rfl:j=n:=by omega
   have HE:Hid (x=Z.count 10):=by
    show x=_;rw [←hx,←HN.out,List.take_length]
   clear hct hx;go_wp2;go_ret
   rw [←HE.out];exact ⟨rfl,rfl⟩
end Go.Proofs.YtjllhcifmfhkmaaGreat.Oct
namespace Go.Proofs.YtjllhcifmfhkmaaGreat.Oct
open Go.RowKit
structure Im (N:Nat) (L:List Int) (P:Nat→List Int):Prop where
 len:L.length=N*256
 bys:Bys L
 pg:∀j,j<N→pageOf L j=P j
def putP (P:Nat→List Int) (k:Nat) (Z:List Int):Nat→List Int:=fun j=>if j=k then Z else P j
theorem Im.lay {N k:Nat} {L Z:List Int} {P:Nat→List Int} (h:Im N L P) (hk:k<N) (hZ:Z.length=256) (hb:Bys Z):Im N (layL L k Z) (putP P k Z):=by
 have hl:=h.len;have h1:(L.take (k*256)).length=k*256:=by rw [List.length_take];omega
 have ht:Bys (L.take (k*256)):=fun z hz=>h.bys z (List.mem_of_mem_take hz)
 have hd:Bys (L.drop (k*256+Z.length)):=fun z hz=>h.bys z (List.mem_of_mem_drop hz)
 refine ⟨?_,ht.app (hb.app hd),fun j hj=>?_⟩
 ·unfold layL;simp only [List.length_append,List.length_drop,h1,hZ];omega
 ·unfold putP;split
  ·next e=>
   subst e;unfold pageOf layL;rw [List.drop_left' h1,List.take_left' hZ]
  ·next e=>
   rw [←h.pg j hj];refine List.ext_getElem? fun i=>?_
   unfold pageOf layL;simp only [List.getElem?_take,List.getElem?_drop];by_cases hi:i<256
   ·rw [if_pos hi,if_pos hi];by_cases hjk:j<k
    ·rw [List.getElem?_append_left (by rw [h1];omega),List.getElem?_take,if_pos (by omega)]
    ·rw [List.getElem?_append_right (by rw [h1];omega),List.getElem?_append_right (by rw [h1,hZ];omega),List.getElem?_drop];have e:k*256+Z.length+(j*256+i-(List.take (k*256) L).length-Z.length)=j*256+i:=by rw [h1,hZ];omega
     rw [e]
   ·rw [if_neg hi,if_neg hi]
theorem im_zero (N:Nat):Im N (List.replicate (N*256) 0) (fun _=>List.replicate 256 0):=by
 refine ⟨by simp,bys_rep _,fun j hj=>?_⟩;unfold pageOf;rw [List.drop_replicate,List.take_replicate,show min 256 (N*256-j*256)=256 from by omega]
def ups (a n:Nat):List Int:=(List.range n).map fun i=>((a+i:Nat):Int)
theorem ups_len (a n:Nat):(ups a n).length=n:=by simp [ups]
theorem ups_at {a n i:Nat} (h:i<n):(ups a n).getD i 0=((a+i:Nat):Int):=by
 unfold ups;simp [List.getD_eq_getElem?_getD,h]
theorem ups_ok {a n:Nat} (ha:2≤a) (h:a+n≤4096):CtOk (ups a n):=by
 intro i hi;rw [ups_len] at hi;rw [ups_at hi];refine ⟨by omega,fun k hk=>?_⟩;rw [ups_at (by omega)];omega
theorem ups_succ (a n:Nat):ups a (n+1)=ups a n++[((a+n:Nat):Int)]:=by simp [ups,List.range_succ]
def Cha (P:Nat→List Int) (t:List Int) (a:Nat):Prop:=∀i,i<ned t.length→P (a+i)=sealL (cpg t (ups a (ned t.length)) i)
def kidOf (p:Nat) (c:List C4):C4:=⟨(p:Nat),c.length,(c.map (·.c)).sum,(c.map (·.d)).sum⟩
def kidsL (a:Nat):List (List C4)→List C4
 |[]=>[]
 |c::D=>kidOf a c::kidsL (a+1) D
theorem kidsL_len:∀(D:List (List C4)) (a:Nat),(kidsL a D).length=D.length
 |[],_=>rfl
 |c::D,a=>by simp [kidsL,kidsL_len D (a+1)]
theorem kidsL_snoc:∀(D:List (List C4)) (a:Nat) (c:List C4),kidsL a (D++[c])=kidsL a D++[kidOf (a+D.length) c]
 |[],a,c=>by simp [kidsL]
 |x::D,a,c=>by
  simp only [List.cons_append,kidsL,kidsL_snoc D (a+1) c,List.length_cons];rw [show a+1+D.length=a+(D.length+1) from by omega]
def Tre (P:Nat→List Int) (l:List C4) (a r h b:Nat):Prop:=
 (l=[]∧r=0∧h=0∧b=a)∨
 (1≤l.length∧l.length≤20∧r=a∧h=1∧b=a+1∧P a=layZ false 0 l)∨
 (∃D:List (List C4),D.flatten=l∧2≤D.length∧D.length≤12∧(∀c∈D,10≤c.length∧c.length≤20)∧r=a+D.length∧h=2∧b=a+D.length+1∧(∀i,i<D.length→P (a+i)=layZ false 0 (D.getD i []))∧P (a+D.length)=layZ true 1 (kidsL a D))
theorem lay_leaf {l:List C4} (h1:1≤l.length) (h2:l.length≤20) (hl:∀x∈l,okC false x=true):layB false 0 l=true:=by
 unfold layB;rw [Bool.and_eq_true,List.all_eq_true];refine ⟨takes_iff.2 ⟨by decide,?_⟩,hl⟩;show 1≤(l.length:Int)∧(l.length:Int)≤20;omega
theorem sum_le {l:List C4} (hl:∀x∈l,okC false x=true):(l.length:Int)≤(l.map (·.c)).sum∧(l.map (·.c)).sum≤248*(l.length:Int)∧0≤(l.map (·.d)).sum∧(l.map (·.d)).sum≤(l.map (·.c)).sum:=by
 induction l with
 |nil=>simp
 |cons x l ih=>
  have h1:=ih fun y hy=>hl y (List.mem_cons_of_mem _ hy)
  have h2:=hl x List.mem_cons_self;unfold okC at h2;simp only [decide_eq_true_eq] at h2;simp only [List.map_cons,List.sum_cons,List.length_cons];omega
theorem kid_ok {c:List C4} {p:Nat} (h1:10≤c.length) (h2:c.length≤20) (hl:∀x∈c,okC false x=true) (hp:2≤p∧p<4096):okC true (kidOf p c)=true:=by
 have:=sum_le hl;unfold okC kidOf;simp only [decide_eq_true_eq];omega
theorem kidsL_ok:∀(D:List (List C4)) (a:Nat),(∀c∈D,10≤c.length∧c.length≤20)→(∀x∈D.flatten,okC false x=true)→2≤a→a+D.length≤4096→∀k∈kidsL a D,okC true k=true
 |[],a,_,_,_,_,k,hk=>by cases hk
 |c::D,a,hc,hl,ha,hN,k,hk=>by
  have h1:=hc c List.mem_cons_self;rw [List.length_cons] at hN;unfold kidsL at hk;rcases List.mem_cons.1 hk with rfl|hk
  ·exact kid_ok h1.1 h1.2 (fun x hx=>hl x (by rw [List.flatten_cons];exact List.mem_append_left _ hx)) (by omega)
  ·exact kidsL_ok D (a+1) (fun x hx=>hc x (List.mem_cons_of_mem _ hx)) (fun x hx=>hl x (by rw [List.flatten_cons];exact List.mem_append_right _ hx)) (by omega) (by omega) k hk
end Go.Proofs.YtjllhcifmfhkmaaGreat.Oct
