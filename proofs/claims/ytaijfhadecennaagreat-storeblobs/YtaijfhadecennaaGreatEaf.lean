/- Part of a proof. -/
import Derived.Test.YtaijfhadecennaaGreatEnb
import Derived.Test.YtaijfhadecennaaGreatUb
import Derived.RegionTactic
import Derived.ChangeAlike
import Derived.Defers
import Derived.Recover
import Derived.Test.YtaijfhadecennaaGreatUk
import Derived.Test.YtaijfhadecennaaGreatTk
import Derived.Test.YtaijfhadecennaaGreatEnc
import Derived.Test.YtaijfhadecennaaGreatQg
set_option maxHeartbeats 8000000
namespace Go.Proofs.YtaijfhadecennaaGreat.Oct
open Go.RowKit
attribute [local go_sem ↓] StP_eq LdP_eq
def ErrA (w:World) (q:Nat) (x:Int):Prop:=w.heap[q]?=some (.cells #[.int .i64 x] 25 (0,0))
theorem ErrA.at {w:World} {q:Nat} {x:Int} (h:ErrA w q x):w.cell? ⟨q,0,none⟩=some (.int .i64 x)/\w.frozen? ⟨q,0,none⟩=false:=by
 unfold ErrA at h;refine ⟨?_,?_⟩
 ·rw [cell_of_row w q _ _ _ (0,0) h];rfl
 ·unfold World.frozen?;rw [h];simp
theorem ErrA.set {w:World} {q:Nat} {x:Int} (h:ErrA w q x) (y:Int):ErrA (w.setCell ⟨q,0,none⟩ (.int .i64 y)) q y:=by unfold ErrA;rw [setCell_heap _ _ _ _ _ _ _ h];rfl
theorem rpt0_lit:rpt0= #[.int .i64 0,.int .i64 0,.int .i64 0,.int .i64 0,.int .i64 0,.int .i64 0,.int .i64 0,.int .i64 0,.int .i64 0,.slice none 0 0,.slice none 0 0,.slice none 0 0,.slice none 0 0]:=rfl
theorem RepP.keep {F G G':Nat->Prop} {w w':World} {v:Value} {R:Rp} (h:RepP F G w v R) (hs:w.heap.size<=w'.heap.size) (k:∀g,G g->¬F g->g<w.heap.size->w'.heap[g]?=w.heap[g]?) (hG:∀g,G g->G' g):RepP F G' w' v R:=by
 obtain ⟨aP,cP,aT,cT,aS,cS,aG,cG,e,h1,h2,h3,h4,h5⟩:=h;refine ⟨aP,cP,aT,cT,aS,cS,aG,cG,e,h1.keepO (fun g hg=>?_),h2.keepO (fun g hg=>?_),h3.keepO (fun g hg=>?_),h4.keepO' (fun g hg=>?_),fun g hg=>⟨⟨(h5 g hg).1.1,qA (h5 g hg).1.2 hs⟩,hG g (h5 g hg).2⟩⟩
 ·have:=h5 g (.inl hg);exact k g this.2 this.1.1 this.1.2
 ·have:=h5 g (.inr (.inl hg));exact k g this.2 this.1.1 this.1.2
 ·have:=h5 g (.inr (.inr (.inl hg)));exact k g this.2 this.1.1 this.1.2
 ·have:=h5 g (.inr (.inr (.inr hg)));exact k g this.2 this.1.1 this.1.2
def RsA (w:World) (q:Nat) (v:Value):Prop:=w.heap[q]?=some (.cells #[v] 54 (0,0))
theorem RsA.at {w:World} {q:Nat} {v:Value} (h:RsA w q v):w.cell? ⟨q,0,none⟩=some v/\w.frozen? ⟨q,0,none⟩=false:=by
 unfold RsA at h;refine ⟨?_,?_⟩
 ·rw [cell_of_row w q _ _ _ (0,0) h];rfl
 ·unfold World.frozen?;rw [h];simp
theorem RsA.set {w:World} {q:Nat} {v:Value} (h:RsA w q v) (y:Value):RsA (w.setCell ⟨q,0,none⟩ y) q y:=by unfold RsA;rw [setCell_heap _ _ _ _ _ _ _ h];rfl
theorem wcatch_no (v0 v1 v2:Value) (w:World):
  CallsD Tryz.prog 152 #[v0,v1,v2] .returning w fun e u' w'=>e=.returned (.tuple #[])/\u'=.returning/\w'=w:=by
 refine callsD_of_wpS Tryz.func152 rfl fun c₀ cs hu=>?_
 apply wpS_seq;apply wpS_region;simp [wpOpsS,go_sem,recoverD,hu,Tryz.ntmps152,Exit.thenS];apply wpS_seq;apply wpS_region;simp [wpOpsS,go_sem,Exit.thenS];refine wpS_cond (t:=false) (by simp [Act.eval,Array.replicate]) ?_;simp only [xZ,if_false];refine wpS_of_wp (wp_skip ?_);cases c₀
 simp_all [bodyPostS,results,Tryz.results152]
theorem results_rce {fn:Func} {p q u:Tmp} (h:fn.results= #[.cell p 85,.cell q 54,.cell u 25]) (tmps:Array Value) (w:World) (g c e:Nat) (cs:Array Value) (v:Value) (k:Int)
  (hp:tmps.getD p undef=.pointer (some ⟨g,0,none⟩)) (hq:tmps.getD q undef=.pointer (some ⟨c,0,none⟩)) (hu:tmps.getD u undef=.pointer (some ⟨e,0,none⟩)) (hg:w.heap[g]?=some (.cells cs 85 (0,0))) (hc:cs.size=13) (hr:RsA w c v) (he:ErrA w e k):
  (results fn tmps).run Tryz.prog w=.ok (.tuple #[.agg cs,v,.int .i64 k]) w:=by
 have h1:=run_loadVar_row (P:=Tryz.prog) w g 85 85 cs (0,0) _ hg Tryz.underlying85 rfl (by rw [hc];kernel_rfl);have h2:=he.at.1;have h3:=hr.at.1;have hp':tmps[p]?.getD undef=.pointer (some ⟨g,0,none⟩):=by simpa using hp
 have hq':tmps[q]?.getD undef=.pointer (some ⟨c,0,none⟩):=by simpa using hq
 have hu':tmps[u]?.getD undef=.pointer (some ⟨e,0,none⟩):=by simpa using hu
 simp [results,h,hp',hq',hu',asAddr,h1];simp [go_sem,h2,h3]
def WlE (w:World) (d:Nat) (FD:Nat->Prop) (D0:Dv) (N:Nat) (r:Rp) (cs:List Int) (e:Ending) (w':World):Prop:=
 ∃v k aC cC,e=.returned (.tuple #[v,.slice aC cs.length cC,.int .i64 0])/\k<=N/\Dev w' d FD (rdK D0 k)/\Ch w.heap.size FD w w'/\RepP FD (fun k=>FD k\/w.heap.size<=k) w' v r/\OwnI w.heap.size w' (.slice aC cs.length cC) cs
def bxW (w:World) (S:Sp):World:=((((w.alloc (.cells #[.int .i64 S.g,.int .i64 S.p,.int .i64 S.r,.int .i64 S.h,.int .i64 S.b,.int .i64 S.l,.int .i64 S.s,.int .i64 S.f] 29)).alloc (.cells #[.int .i64 0,.int .i64 0,.int .i64 0,.int .i64 0,.int .i64 0,.int .i64 0,.int .i64 0,.int .i64 0,.int .i64 0,.slice none 0 0,.slice none 0 0,.slice none 0 0,.slice none 0 0] 85)).alloc (.cells #[.slice none 0 0] 54)).alloc (.cells #[.int .i64 0] 25))
theorem bxW_all (w:World) (S:Sp):(bxW w S).heap.size=w.heap.size+4/\(bxW w S).heap[w.heap.size]?=some (.cells (spC' S) 29 (0,0))/\(bxW w S).heap[w.heap.size+1]?=some (.cells rpt0 85 (0,0))/\RsA (bxW w S) (w.heap.size+1+1) (.slice none 0 0)/\ErrA (bxW w S) (w.heap.size+1+1+1) 0/\Below w.heap.size w (bxW w S):=by
 refine ⟨by simp [bxW],?_,?_,?_,?_,?_⟩
 ·unfold bxW;rw [heap_alloc_old _ _ (by simp;omega),heap_alloc_old _ _ (by simp;omega)];exact heap_alloc2_old w _ _
 ·unfold bxW;rw [heap_alloc_old _ _ (by simp),heap_alloc_old _ _ (by simp)];exact heap_alloc2_new w _ _
 ·unfold bxW RsA;rw [heap_alloc_old _ _ (by simp)];have:=heap_alloc_new ((w.alloc (.cells #[.int .i64 S.g,.int .i64 S.p,.int .i64 S.r,.int .i64 S.h,.int .i64 S.b,.int .i64 S.l,.int .i64 S.s,.int .i64 S.f] 29)).alloc (.cells #[.int .i64 0,.int .i64 0,.int .i64 0,.int .i64 0,.int .i64 0,.int .i64 0,.int .i64 0,.int .i64 0,.int .i64 0,.slice none 0 0,.slice none 0 0,.slice none 0 0,.slice none 0 0] 85)) (.cells #[.slice none 0 0] 54)
  simpa using this
 ·unfold bxW ErrA;have:=heap_alloc_new (((w.alloc (.cells #[.int .i64 S.g,.int .i64 S.p,.int .i64 S.r,.int .i64 S.h,.int .i64 S.b,.int .i64 S.l,.int .i64 S.s,.int .i64 S.f] 29)).alloc (.cells #[.int .i64 0,.int .i64 0,.int .i64 0,.int .i64 0,.int .i64 0,.int .i64 0,.int .i64 0,.int .i64 0,.int .i64 0,.slice none 0 0,.slice none 0 0,.slice none 0 0,.slice none 0 0] 85)).alloc (.cells #[.slice none 0 0] 54)) (.cells #[.int .i64 0] 25)
  simpa using this
 ·unfold bxW;exact ((((Below.refl _ w).alloc (jB _) _).alloc (by simp) _).alloc (by simp;omega) _).alloc (by simp;omega) _
set_option maxRecDepth 20000 in
theorem walk0 {w:World} {d N:Nat} {FD:Nat->Prop} {D0:Dv} {L:List Int} (hd:Dev w d FD D0) (hwl:Well D0) (hL:D0.now=L) (hN:D0.n=N) (hops:D0.ops<=1000000000000) (S:Sp) (hS:okS S=true) (hp:S.p=(N:Int)) (hr0:S.r=0)
  {R2 R3:List Bool} {st fr:List Int} (hc1:chB L (N+1) S.s (rN L) []=some (R2,st)) (hc2:chB L (N+1) S.f R2 []=some (R3,fr)) (hu:fr=usedL R3):
  Calls Tryz.prog 100 #[.pointer (some ⟨d,0,none⟩),spV S] w fun e w'=>WlE w d FD D0 N ⟨S,-1,[],[],st,rsB R3 N,S.h⟩ (chQ L (N+1) S.s++chQ L (N+1) S.f) e w':=by
 have hck:= @check_v S;have hE:enE S=0:=by unfold enE;rw [hS];rfl
 have hmf:∀(fn:Fn) (first cap:Array Value) (w:World),(Instr.makeFunc fn first cap).run Tryz.prog w=.ok (.func fn first cap) w:=fun _ _ _ _=>rfl
 obtain ⟨b0,b1,b2,b3,b4,b5⟩:=bxW_all w S;have HB:Hid ((bxW w S).heap.size=w.heap.size+4/\(bxW w S).heap[w.heap.size+1]?=some (.cells rpt0 85 (0,0))/\RsA (bxW w S) (w.heap.size+1+1) (.slice none 0 0)/\ErrA (bxW w S) (w.heap.size+1+1+1) 0/\Below w.heap.size w (bxW w S)/\(bxW w S).heap[w.heap.size]?=some (.cells (spC' S) 29 (0,0))):=⟨b0,b2,b3,b4,b5,b1⟩;have HSV:Hid (∀w1,Below w.heap.size w w1->Calls Tryz.prog 153 #[.pointer (some ⟨d,0,none⟩),spV S] w1 fun e w'=>SvE w1 d FD D0 N ⟨S,-1,[],[],st,rsB R3 N,S.h⟩ (chQ L (N+1) S.s++chQ L (N+1) S.f) e w'):=fun w1 hb=>survey0 (hd.below hb) hwl hL hN hops S hS hp hr0 hc1 hc2 hu
 have HFL:Hid (∀k,FD k->k<w.heap.size):=hd.2.1;clear b0 b1 b2 b3 b4 b5 hd hL hN hops hS hwl hp hr0 hc1 hc2 hu;unfold spV at hck HSV ⊢;go_enter_defers Tryz.func100,Tryz.ntmps100
 go_wp2_with fail
 refine (hck (bxW w S) 0 hE).mono ?_;clear hck hE;rintro e w1 ⟨rfl,hb1⟩
 have H1:Hid (Below w.heap.size w w1/\w1.heap[w.heap.size]?=some (.cells (spC' S) 29 (0,0))/\w1.heap[w.heap.size+1]?=some (.cells rpt0 85 (0,0))/\RsA w1 (w.heap.size+1+1) (.slice none 0 0)/\ErrA w1 (w.heap.size+1+1+1) 0/\w.heap.size+4<=w1.heap.size):=by
  have:=HB.out.1;have:=hb1.size;exact ⟨HB.out.2.2.2.2.1.trans (hb1.mono HB.out.2.2.2.2.1.size),(hb1.block _ (by omega)).trans HB.out.2.2.2.2.2,(hb1.block _ (by omega)).trans HB.out.2.1,(hb1.block (w.heap.size+1+1) (by omega)).trans HB.out.2.2.1,(hb1.block (w.heap.size+1+1+1) (by omega)).trans HB.out.2.2.2.1,by omega⟩
 have hsv:=HSV.out w1 H1.out.1;have hc:∀i,w1.cell? ⟨w.heap.size,i,none⟩=(spC' S)[i]?:=fun i=>cell_of_row w1 _ _ _ _ (0,0) H1.out.2.1
 have s0:w1.cell? ⟨w.heap.size,0,none⟩=some (.int .i64 S.g):=by rw [hc];rfl
 have s1:w1.cell? ⟨w.heap.size,1,none⟩=some (.int .i64 S.p):=by rw [hc];rfl
 have s2:w1.cell? ⟨w.heap.size,2,none⟩=some (.int .i64 S.r):=by rw [hc];rfl
 have s3:w1.cell? ⟨w.heap.size,3,none⟩=some (.int .i64 S.h):=by rw [hc];rfl
 have s4:w1.cell? ⟨w.heap.size,4,none⟩=some (.int .i64 S.b):=by rw [hc];rfl
 have s5:w1.cell? ⟨w.heap.size,5,none⟩=some (.int .i64 S.l):=by rw [hc];rfl
 have s6:w1.cell? ⟨w.heap.size,6,none⟩=some (.int .i64 S.s):=by rw [hc];rfl
 have s7:w1.cell? ⟨w.heap.size,7,none⟩=some (.int .i64 S.f):=by rw [hc];rfl
 clear hc hb1 HB HSV;go_wp2_with fail
 refine hsv.mono ?_;clear hsv s0 s1 s2 s3 s4 s5 s6 s7;rintro e w2 ⟨v,k,aC,cC,rfl,hk,hdv,hch,hrep,hown⟩;obtain ⟨aP,cP,aT,cT,aS,cS,aG,cG,rfl,hrest⟩:=id hrep;simp only at hrep hrest ⊢;obtain ⟨cx,hcx⟩:∃cx,rpP S (-1) (.slice aP ([]:List C4).length cP) (.slice aT ([]:List Int).length cT) (.slice aS st.length cS) (.slice aG (rsB R3 N).length cG)=cx:=⟨_,rfl⟩;have hcl:cx.size=13:=by rw [<-hcx];rfl
 have hc1:cx.all (·.oneCell')=true:=by rw [<-hcx];exact rpP_one ..
 rw [hcx] at hrep ⊢;obtain ⟨cs,hcs⟩:∃cs,chQ L (N+1) S.s++chQ L (N+1) S.f=cs:=⟨_,rfl⟩;have HCS:Hid (chQ L (N+1) S.s++chQ L (N+1) S.f=cs):=hcs;rw [hcs] at hown ⊢;obtain ⟨nc,hnc⟩:∃nc,cs.length=nc:=⟨_,rfl⟩;have HNC:Hid (cs.length=nc):=hnc;rw [hnc] at hown ⊢;have hFl:=HFL.out;have hs1:=H1.out.2.2.2.2.2;have hs2:=hch.size;have hn:∀i,¬FD (w.heap.size+i):=fun i h=>by have:=hFl _ h;omega
 have hr2:=(hch.block (w.heap.size+1) (by omega) (hn 1)).trans H1.out.2.2.1;have ha2:RsA w2 (w.heap.size+1+1) (.slice none 0 0):=(hch.block (w.heap.size+1+1) (by omega) (hn 2)).trans H1.out.2.2.2.1;have he2:ErrA w2 (w.heap.size+1+1+1) 0:=(hch.block (w.heap.size+1+1+1) (by omega) (hn 3)).trans H1.out.2.2.2.2.1;have hst1:=StP_run hr2 rfl hcl hc1;have ha1:RsA (w2.setRow (w.heap.size+1) cx) (w.heap.size+1+1) (.slice none 0 0):=(setRow_other w2 _ _ cx (by omega)).trans ha2;obtain ⟨a1,f1⟩:=ha1.at;have HW:Hid (w2.heap[w.heap.size+1]?=some (.cells rpt0 85 (0,0))/\RsA w2 (w.heap.size+1+1) (.slice none 0 0)/\ErrA w2 (w.heap.size+1+1+1) 0/\RsA (w2.setRow (w.heap.size+1) cx) (w.heap.size+1+1) (.slice none 0 0)):=⟨hr2,ha2,he2,ha1⟩;have HR:Hid (RepP FD (fun k=>FD k\/w1.heap.size<=k) w2 (.agg cx) ⟨S,-1,[],[],st,rsB R3 N,S.h⟩/\OwnI w1.heap.size w2 (.slice aC nc cC) cs/\Dev w2 d FD (rdK D0 k)/\Ch w1.heap.size FD w1 w2/\k<=N/\w.heap.size+4<=w1.heap.size/\w1.heap.size<=w2.heap.size):=⟨hrep,hown,hdv,hch,hk,hs1,hs2⟩;have HCL:Hid (cx.size=13/\cx.all (·.oneCell')=true):=⟨hcl,hc1⟩;clear hrep hown hdv hch hk hs1 hs2 hr2 ha2 he2 ha1 hcl hc1 hcx hcs hnc hrest hFl hn;go_upto_region 5 with fail
 have hw3a:RsA ((w2.setRow (w.heap.size+1) cx).setCell ⟨w.heap.size+1+1,0,none⟩ (.slice aC nc cC)) (w.heap.size+1+1) (.slice aC nc cC):=HW.out.2.2.2.set _;have hw3r:((w2.setRow (w.heap.size+1) cx).setCell ⟨w.heap.size+1+1,0,none⟩ (.slice aC nc cC)).heap[w.heap.size+1]?=some (.cells cx 85 (0,0)):=(Below.heap_setCell _ _ _ _ (by dsimp only;omega)).trans (setRow_heap w2 _ _ _ _ _ HW.out.1);have hw3e:ErrA ((w2.setRow (w.heap.size+1) cx).setCell ⟨w.heap.size+1+1,0,none⟩ (.slice aC nc cC)) (w.heap.size+1+1+1) 0:=(Below.heap_setCell _ _ _ _ (by dsimp only;omega)).trans ((setRow_other w2 _ _ cx (by omega)).trans HW.out.2.2.1);have hw3c:Ch w2.heap.size (fun x=>w.heap.size+1<=x/\x<=w.heap.size+3) w2 ((w2.setRow (w.heap.size+1) cx).setCell ⟨w.heap.size+1+1,0,none⟩ (.slice aC nc cC)):=((Ch.refl _ (fun x=>w.heap.size+1<=x/\x<=w.heap.size+3) w2).setRow (.inr ⟨by omega,by omega⟩) cx).setCell (p:=⟨w.heap.size+1+1,0,none⟩) (.inr ⟨by show _<=w.heap.size+1+1;omega,by show w.heap.size+1+1<=_;omega⟩) _;obtain ⟨w3,hw3⟩:∃w3,(w2.setRow (w.heap.size+1) cx).setCell ⟨w.heap.size+1+1,0,none⟩ (.slice aC nc cC)=w3:=⟨_,rfl⟩;rw [hw3] at hw3a hw3r hw3e hw3c ⊢;have hld:=LdP_run (w:=w3.drew) hw3r HCL.out.1;have hst3:=StP_run (w:=w3.drew) hw3r HCL.out.1 HCL.out.1 HCL.out.2;have hb4:RsA (w3.drew.setRow (w.heap.size+1) cx) (w.heap.size+1+1) (.slice aC nc cC):=(setRow_other w3.drew _ _ cx (by omega)).trans hw3a;have he4:ErrA (w3.drew.setRow (w.heap.size+1) cx) (w.heap.size+1+1+1) 0:=(setRow_other w3.drew _ _ cx (by omega)).trans hw3e;have he5:ErrA ((w3.drew.setRow (w.heap.size+1) cx).setCell ⟨w.heap.size+1+1,0,none⟩ (.slice aC nc cC)) (w.heap.size+1+1+1) 0:=(Below.heap_setCell _ _ _ _ (by dsimp only;omega)).trans he4;have ha3d:w3.drew.cell? ⟨w.heap.size+1+1,0,none⟩=some (.slice aC nc cC):=hw3a.at.1;obtain ⟨b4,g4⟩:=hb4.at;obtain ⟨e5,g5⟩:=he5.at
 have HE:Hid ((((w3.drew.setRow (w.heap.size+1) cx).setCell ⟨w.heap.size+1+1,0,none⟩ (.slice aC nc cC)).setCell ⟨w.heap.size+1+1+1,0,none⟩ (.int .i64 0)).heap[w.heap.size+1]?=some (.cells cx 85 (0,0))/\RsA (((w3.drew.setRow (w.heap.size+1) cx).setCell ⟨w.heap.size+1+1,0,none⟩ (.slice aC nc cC)).setCell ⟨w.heap.size+1+1+1,0,none⟩ (.int .i64 0)) (w.heap.size+1+1) (.slice aC nc cC)/\ErrA (((w3.drew.setRow (w.heap.size+1) cx).setCell ⟨w.heap.size+1+1,0,none⟩ (.slice aC nc cC)).setCell ⟨w.heap.size+1+1+1,0,none⟩ (.int .i64 0)) (w.heap.size+1+1+1) 0/\
   WlE w d FD D0 N ⟨S,-1,[],[],st,rsB R3 N,S.h⟩ cs (.returned (.tuple #[.agg cx,.slice aC nc cC,.int .i64 0])) (((w3.drew.setRow (w.heap.size+1) cx).setCell ⟨w.heap.size+1+1,0,none⟩ (.slice aC nc cC)).setCell ⟨w.heap.size+1+1+1,0,none⟩ (.int .i64 0))):=by
  obtain ⟨q1,q2,q3,q4,q5,q6,q7⟩:=HR.out;have hFl:=HFL.out
  have hc5:Ch w2.heap.size (fun x=>w.heap.size+1<=x/\x<=w.heap.size+3) w2 (((w3.drew.setRow (w.heap.size+1) cx).setCell ⟨w.heap.size+1+1,0,none⟩ (.slice aC nc cC)).setCell ⟨w.heap.size+1+1+1,0,none⟩ (.int .i64 0)):=
   ((hw3c.drew.setRow (.inr ⟨by omega,by omega⟩) cx).setCell (p:=⟨w.heap.size+1+1,0,none⟩) (.inr ⟨by show _<=w.heap.size+1+1;omega,by show w.heap.size+1+1<=_;omega⟩) _).setCell (p:=⟨w.heap.size+1+1+1,0,none⟩) (.inr ⟨by show _<=w.heap.size+1+1+1;omega,by show w.heap.size+1+1+1<=_;omega⟩) _
  refine ⟨(Below.heap_setCell _ _ _ _ (by dsimp only;omega)).trans ((Below.heap_setCell _ _ _ _ (by dsimp only;omega)).trans (setRow_heap w3.drew _ _ _ _ _ hw3r)),(Below.heap_setCell _ _ _ _ (by dsimp only;omega)).trans (hb4.set _),he5.set 0,.agg cx,k,aC,cC,by rw [HNC.out],q5,q3.keep hc5.size (fun g hg=>hc5.block g (q3.2.1 g hg) (fun e=>by have:=hFl g hg;omega)),?_,?_,?_⟩
  ·refine (Ch.of FD H1.out.1).trans ((q4.mono (by omega) (fun _ _ h=>h)).trans (hc5.mono (by omega) (fun g hg e=>?_)));omega
  ·refine q1.keep hc5.size (fun g hg hn hl=>hc5.block g hl (fun e=>?_)) (fun g hg=>?_)
   ·rcases hg with h|h
    ·exact hn h
    ·omega
   ·rcases hg with h|h
    ·exact .inl h
    ·right;omega
  ·rw [HNC.out]
   have h5:OwnI w1.heap.size (((w3.drew.setRow (w.heap.size+1) cx).setCell ⟨w.heap.size+1+1,0,none⟩ (.slice aC nc cC)).setCell ⟨w.heap.size+1+1+1,0,none⟩ (.int .i64 0)) (.slice aC nc cC) cs:=owns_keep q2 (fun g hg=>by
    have:=World.ownsRow.lt q2 g hg;exact hc5.block g this.2 (fun e=>by omega))
   exact owns_base h5 (fun g hg=>by have:=(World.ownsRow.lt q2 g hg).1;omega)
 clear hw3a hw3r hw3e hw3c hw3 hb4 he4 he5 a1 f1 hst1 HW HR;go_region
 go_wp2;refine leaves_cons (f:=152) (args:= #[.pointer (some ⟨w.heap.size+1,0,none⟩),.pointer (some ⟨w.heap.size+1+1,0,none⟩),.pointer (some ⟨w.heap.size+1+1+1,0,none⟩)]) (by simp) (by simp [go_sem]) ?_;refine (wcatch_no _ _ _ _).mono ?_;rintro e u' w'' ⟨rfl,rfl,rfl⟩;refine ⟨_,results_rce rfl _ _ (w.heap.size+1) (w.heap.size+1+1) (w.heap.size+1+1+1) _ _ 0 rfl rfl rfl HE.out.1 HCL.out.1 HE.out.2.1 HE.out.2.2.1,?_⟩;rw [HCS.out];exact HE.out.2.2.2
end Go.Proofs.YtaijfhadecennaaGreat.Oct
namespace Go.Proofs.YtaijfhadecennaaGreat.Oct
open Go.RowKit
attribute [local go_sem ↓] StP_eq LdP_eq
theorem rdK_add (D:Dv) (a:Nat):∀k,rdK (rdK D a) k=rdK D (a+k)
 |0=>rfl
 |k+1=>by
  show readD (rdK (rdK D a) k)=readD (rdK D (a+k));rw [rdK_add D a k]
def Bk2 (w:World) (bb:Nat) (v0 v1:Value):Prop:=w.heap[bb]?=some (.cells #[v0,v1] 131 (0,0))
theorem Bk2.at {w:World} {bb:Nat} {v0 v1:Value} (h:Bk2 w bb v0 v1):w.cell? ⟨bb,0,none⟩=some v0/\w.cell? ⟨bb,1,none⟩=some v1/\∀i,w.frozen? ⟨bb,i,none⟩=false:=by
 have hc:∀i,w.cell? ⟨bb,i,none⟩=_:=fun i=>cell_of_row w bb i _ _ (0,0) h
 refine ⟨by rw [hc];rfl,by rw [hc];rfl,fun i=>?_⟩;unfold World.frozen?;rw [h];simp
theorem fill_new {w5:World} {rb:Nat} {cs:Array Value} (hr:w5.heap[rb]?=some (.cells rpt0 85 (0,0))) (hc:cs.size=13) (h1:cs.all (·.oneCell')=true):
  ((StP (.pointer (some ⟨w5.heap.size,0,none⟩)) (.agg cs)).run Tryz.prog (w5.alloc (.cells rpt0 85))=.ok () ((w5.alloc (.cells rpt0 85)).setRow w5.heap.size cs)/\((w5.alloc (.cells rpt0 85)).setRow w5.heap.size cs).heap[w5.heap.size]?=some (.cells cs 85 (0,0))/\((w5.alloc (.cells rpt0 85)).setRow w5.heap.size cs).heap[rb]?=some (.cells rpt0 85 (0,0))/\Below w5.heap.size w5 ((w5.alloc (.cells rpt0 85)).setRow w5.heap.size cs)):=by
 have hl:=heap_lt hr;refine ⟨StP_run (heap_alloc_new w5 _) rfl hc h1,setRow_heap _ _ _ _ _ _ (heap_alloc_new w5 _),?_,((Ch.of (fun _=>False) ((Below.refl _ w5).alloc (jB _) _)).setRow (.inl (jB _)) _).below (fun k e=>by cases e)⟩;rw [setRow_other _ _ rb _ (by omega)];exact (heap_alloc_old w5 _ hl).trans hr
theorem rpP_place (S:Sp) (pl P:Int) (vP vT vS vG:Value):(rpP S pl vP vT vS vG).setIfInBounds 8 (.int .i64 P)=rpP S P vP vT vS vG:=rfl
theorem rpP_8 (S:Sp) (pl:Int) (vP vT vS vG:Value):(rpP S pl vP vT vS vG)[8]?=some (.int .i64 pl):=rfl
theorem ch_ok {x y:List Int} (h:chE x y=0):okS (chS x y)=true:=by
 unfold chE at h;unfold chS;split
 ·next e=>exact de_gen e.1
 ·next e=>
  refine de_gen ?_;by_cases hy:deE y=0
  ·exact hy
  ·by_cases hx:deE x=0
   ·exact absurd ⟨hx,.inl hy⟩ e
   ·rw [if_pos ⟨hx,hy⟩] at h;cases h
theorem RepP.place {F G:Nat->Prop} {w:World} {R:Rp} {x1 x2 x3 x4:Value} (P:Int) (h:RepP F G w (.agg (rpP R.s R.pl x1 x2 x3 x4)) R):RepP F G w (.agg (rpP R.s P x1 x2 x3 x4)) {R with pl:=P}:=by
 obtain ⟨aP,cP,aT,cT,aS,cS,aG,cG,e,h⟩:=h
 have e2:x1=.slice aP R.pc.length cP/\x2=.slice aT R.tx.length cT/\x3=.slice aS R.st.length cS/\x4=.slice aG R.pg.length cG:=by
  simp only [rpP,Value.agg.injEq,Array.mk.injEq,List.cons.injEq,and_true,true_and] at e;exact e
 obtain ⟨rfl,rfl,rfl,rfl⟩:=e2;exact ⟨aP,cP,aT,cT,aS,cS,aG,cG,rfl,h⟩
def OpI (w0 wr:World) (bb d:Nat) (FD:Nat->Prop) (D0:Dv) (L:List Int) (k:Nat):Prop:=
 (Dev wr d FD (rdK D0 k)/\(∀j,j<k->tellsD (rdK D0 j)=true)/\Ch w0.heap.size (fun x=>FD x\/x=bb) w0 wr)/\
 ((k=0/\Bk2 wr bb (.slice none 0 0) (.slice none 0 0))\/
  (k=1/\∃g c,Bk2 wr bb (.slice (some ⟨g,0,none⟩) 256 c) (.slice none 0 0)/\Own w0.heap.size wr (.slice (some ⟨g,0,none⟩) 256 c) (pageOf L 0))\/
  (k=2/\∃g c g' c',Bk2 wr bb (.slice (some ⟨g,0,none⟩) 256 c) (.slice (some ⟨g',0,none⟩) 256 c')/\Own w0.heap.size wr (.slice (some ⟨g,0,none⟩) 256 c) (pageOf L 0)/\Own w0.heap.size wr (.slice (some ⟨g',0,none⟩) 256 c') (pageOf L 1)))
theorem results_rtt {fn:Func} {p q u:Tmp} (h:fn.results= #[.cell p 85,.tmp q,.tmp u]) (tmps:Array Value) (w:World) (g:Nat) (cs:Array Value)
  (hp:tmps.getD p undef=.pointer (some ⟨g,0,none⟩)) (hg:w.heap[g]?=some (.cells cs 85 (0,0))) (hc:cs.size=13):
  (results fn tmps).run Tryz.prog w=.ok (.tuple #[.agg cs,tmps.getD q undef,tmps.getD u undef]) w:=by
 have h1:=run_loadVar_row (P:=Tryz.prog) w g 85 85 cs (0,0) _ hg Tryz.underlying85 rfl (by rw [hc];kernel_rfl);have hp':tmps[p]?.getD undef=.pointer (some ⟨g,0,none⟩):=by simpa using hp
 simp [results,h,hp',asAddr,h1]
 try rfl
def OpE (w:World) (d:Nat) (FD:Nat->Prop) (D0:Dv) (N:Nat) (r:Rp) (cs:List Int) (e:Ending) (w':World):Prop:=
 ∃v k aC cC,e=.returned (.tuple #[v,.slice aC cs.length cC,.int .i64 0])/\k<=N+2/\Dev w' d FD (rdK D0 k)/\Ch w.heap.size FD w w'/\RepP FD (fun k=>FD k\/w.heap.size<=k) w' v r/\OwnI w.heap.size w' (.slice aC cs.length cC) cs
set_option maxRecDepth 20000 in
theorem chains0 {w:World} {d N:Nat} {FD:Nat->Prop} {D0:Dv} {L:List Int} (hd:Dev w d FD D0) (hwl:Well D0) (hL:D0.now=L) (hN:D0.n=N) (hops:D0.ops<=999999999990) (S:Sp) (P:Int) (hS:chS (pageOf L 0) (pageOf L 1)=S) (hP:chP (pageOf L 0) (pageOf L 1)=P) (hE:chE (pageOf L 0) (pageOf L 1)=0) (hp:S.p=(N:Int)) (hr0:S.r=0)
  {R2 R3:List Bool} {st fr:List Int} (hc1:chB L (N+1) S.s (rN L) []=some (R2,st)) (hc2:chB L (N+1) S.f R2 []=some (R3,fr)) (hu:fr=usedL R3):
  Calls Tryz.prog 52 #[.pointer (some ⟨d,0,none⟩)] w fun e w'=>OpE w d FD D0 N ⟨S,P,[],[],st,rsB R3 N,S.h⟩ (chQ L (N+1) S.s++chQ L (N+1) S.f) e w':=by
 have HQ:Hid (Well D0/\chS (pageOf L 0) (pageOf L 1)=S/\chP (pageOf L 0) (pageOf L 1)=P/\chE (pageOf L 0) (pageOf L 1)=0/\S.p=(N:Int)/\S.r=0/\chB L (N+1) S.s (rN L) []=some (R2,st)/\chB L (N+1) S.f R2 []=some (R3,fr)/\fr=usedL R3):=⟨hwl,hS,hP,hE,hp,hr0,hc1,hc2,hu⟩;clear hwl hS hP hE hp hr0 hc1 hc2 hu;have hn8:=hd.1.n8;have hn4:=hd.1.n4;obtain ⟨w0,hw0⟩:∃w0,(w.alloc (.cells #[.int .i64 0,.int .i64 0,.int .i64 0,.int .i64 0,.int .i64 0,.int .i64 0,.int .i64 0,.int .i64 0,.int .i64 0,.slice none 0 0,.slice none 0 0,.slice none 0 0,.slice none 0 0] 85)).alloc (.cells #[.slice none 0 0,.slice none 0 0] 131)=w0:=⟨_,rfl⟩
 have H0:Hid (w0.heap.size=w.heap.size+2/\w0.heap[w.heap.size]?=some (.cells rpt0 85 (0,0))/\Below w.heap.size w w0/\OpI w0 w0 (w.heap.size+1) d FD D0 L 0):=by
  have hb:Below w.heap.size w w0:=by rw [<-hw0];exact ((Below.refl _ w).alloc (jB _) _).alloc (by simp) _
  refine ⟨by rw [<-hw0];simp,by rw [<-hw0];exact heap_alloc2_old w _ _,hb,⟨hd.below hb,fun j hj=>absurd hj (Nat.not_lt_zero _),Ch.refl _ _ _⟩,.inl ⟨rfl,by rw [<-hw0];exact heap_alloc2_new w _ _⟩⟩
 have HD:Hid (D0.now=L/\D0.n=N/\D0.ops<=999999999990/\(∀k,FD k->k<w.heap.size)):=⟨hL,hN,hops,hd.2.1⟩;rw [hN] at hn8 hn4;clear hd hL hN hops;go_enter Tryz.func52,Tryz.ntmps52
 go_wp2_with fail
 have HI0:Hid (OpI w0 w0 (w.heap.size+1) d FD D0 L 0):=H0.out.2.2.2;obtain ⟨bb,hbb⟩:∃bb,w.heap.size+1=bb:=⟨_,rfl⟩;obtain ⟨rb,hrb⟩:∃rb,w.heap.size=rb:=⟨_,rfl⟩;rw [hbb] at HI0 ⊢;rw [hrb];have HBB:Hid (w.heap.size+1=bb/\w.heap.size=rb):=⟨hbb,hrb⟩;clear hw0 hbb hrb;go_loopg [3,4,17] 2 (fun gh v3 v4 i wr=>v3=.slice none 0 0/\v4=.int .i64 0/\∃k:Nat,k<=2/\gh=2-k/\i=.int .i64 (k:Int)/\Hid (OpI w0 wr bb d FD D0 L k))
 case atStart=>exact ⟨rfl,rfl,0,by omega,rfl,rfl,HI0.out⟩
 case round=>
  clear HI0;obtain ⟨rfl,rfl,k,hk,hgk,rfl,HI⟩:=hrel;have HGK:Hid (gk=2-k):=hgk;clear hgk;by_cases hlt:k<2
  ·have hrd:=read_any HI.out.1.1 (by have:=(rdK_is D0 k).2.2.1;have:=HD.out.2.2.1;omega) k (by rw [(rdK_is D0 k).2.1,HD.out.2.1];omega);unfold ReadEnd at hrd;rw [(rdK_is D0 k).1,HD.out.1] at hrd;have hFb:¬FD bb/\¬FD rb:=⟨fun h=>by have:=HD.out.2.2.2 _ h;have:=HBB.out;omega,fun h=>by have:=HD.out.2.2.2 _ h;have:=HBB.out;omega⟩;go_wp2_with fail
   refine hrd.mono ?_;clear hrd;rintro e w2 ⟨he,hd2,hc2⟩;have ht:tellsD (rdK D0 k)=true:=(rdK_well HQ.out.1 k).tells;rw [ht,if_pos rfl] at he;obtain ⟨gk2,ck2,rfl,ho2⟩:=he;have hb:=HBB.out;have hs0:=H0.out.1;have hs1:=HI.out.1.2.2.size;have hbw:bb<wr.heap.size:=by omega
   have hch:Ch w0.heap.size (fun x=>FD x\/x=bb) w0 w2:=HI.out.1.2.2.trans (hc2.mono hs1 (fun _ _ h=>.inl h))
   have htold:∀j,j<k+1->tellsD (rdK D0 j)=true:=fun j hj=>by
    rcases Nat.lt_succ_iff_lt_or_eq.1 hj with e|rfl
    ·exact HI.out.1.2.1 j e
    ·exact ht
   have hdev:∀v:Value,Dev (w2.setCell ⟨bb,k,none⟩ v) d FD (rdK D0 (k+1)):=fun v=>hd2.keep (by rw [size_setCell];exact jB _) (fun g hg=>Below.heap_setCell w2 ⟨bb,k,none⟩ v g (fun (e:g=bb)=>hFb.1 (e▸hg)))
   have hgl:=ho2.lt2;have hob:Own w0.heap.size w2 (.slice (some ⟨gk2,0,none⟩) 256 ck2) (pageOf L k):=owns_base ho2 (fun g hg=>by have:=World.ownsRow.lt ho2 g hg;omega);have hOwn:∀v:Value,Own w0.heap.size (w2.setCell ⟨bb,k,none⟩ v) (.slice (some ⟨gk2,0,none⟩) 256 ck2) (pageOf L k):=fun v=>Own.kept hob (Below.heap_setCell w2 ⟨bb,k,none⟩ v gk2 (by show ¬gk2=bb;omega))
   have HM:Hid ((∀v:Value,Dev (w2.setCell ⟨bb,k,none⟩ v) d FD (rdK D0 (k+1)))/\(∀j,j<k+1->tellsD (rdK D0 j)=true)/\(∀v:Value,Ch w0.heap.size (fun x=>FD x\/x=bb) w0 (w2.setCell ⟨bb,k,none⟩ v))/\∀v:Value,Own w0.heap.size (w2.setCell ⟨bb,k,none⟩ v) (.slice (some ⟨gk2,0,none⟩) 256 ck2) (pageOf L k)):=⟨hdev,htold,fun v=>hch.setCell (p:=⟨bb,k,none⟩) (.inr (.inr rfl)) v,hOwn⟩;rcases HI.out.2 with ⟨rfl,hB⟩|⟨rfl,g0,c0,hB,hO⟩|⟨rfl,-⟩
   ·have hB2:Bk2 w2 bb (.slice none 0 0) (.slice none 0 0):=(hc2.block bb hbw hFb.1).trans hB
    have HN:Hid (OpI w0 (w2.setCell ⟨bb,0,none⟩ (.slice (some ⟨gk2,0,none⟩) 256 ck2)) bb d FD D0 L 1):=by
     refine ⟨⟨HM.out.1 _,HM.out.2.1,HM.out.2.2.1 _⟩,.inr (.inl ⟨rfl,gk2,ck2,?_,HM.out.2.2.2 _⟩)⟩;unfold Bk2;rw [setCell_heap _ _ _ _ _ _ _ hB2];rfl
    obtain ⟨x0,x1,fz⟩:=hB2.at;have f0:=fz 0;clear hob hdev htold hch hOwn HM hB hB2 ho2 hd2 hc2 HI fz;go_wp2;go_roundg 1
    case rel=>exact ⟨rfl,rfl,1,by omega,rfl,by go_num,HN.out⟩
    case measure=>have:=HGK.out;omega
   ·have hgo:=hO.lt2;have hB2:Bk2 w2 bb (.slice (some ⟨g0,0,none⟩) 256 c0) (.slice none 0 0):=(hc2.block bb hbw hFb.1).trans hB
    have HN:Hid (OpI w0 (w2.setCell ⟨bb,1,none⟩ (.slice (some ⟨gk2,0,none⟩) 256 ck2)) bb d FD D0 L 2):=by
     refine ⟨⟨HM.out.1 _,HM.out.2.1,HM.out.2.2.1 _⟩,.inr (.inr ⟨rfl,g0,c0,gk2,ck2,?_,?_,HM.out.2.2.2 _⟩)⟩
     ·unfold Bk2;rw [setCell_heap _ _ _ _ _ _ _ hB2];rfl
     ·refine hO.kept ((Below.heap_setCell w2 ⟨bb,1,none⟩ _ g0 (by show ¬g0=bb;omega)).trans (hc2.block g0 hgo.2 (fun h=>?_)));have:=HD.out.2.2.2 _ h;omega
    obtain ⟨x0,x1,fz⟩:=hB2.at;have f1:=fz 1;clear hob hdev htold hch hOwn HM hB hB2 ho2 hd2 hc2 HI fz hO;go_wp2;go_roundg 0
    case rel=>exact ⟨rfl,rfl,2,by omega,rfl,by go_num,HN.out⟩
    case measure=>have:=HGK.out;omega
   ·omega
  ·obtain rfl:k=2:=by omega
   rcases HI.out.2 with ⟨h,-⟩|⟨h,-⟩|⟨-,g0,c0,g1,c1,hB,hO0,hO1⟩
   ·omega
   ·omega
   have hlL:L.length=N*256:=by
    have:=HI.out.1.1.1.now;rw [(rdK_is D0 2).1,(rdK_is D0 2).2.1,HD.out.1,HD.out.2.1] at this;omega
   have hbL:Bys L:=by
    have:=HI.out.1.1.1.bnow;rw [(rdK_is D0 2).1,HD.out.1] at this;exact this
   have hp0:(pageOf L 0).length=256:=pageOf_len (by omega);have hp1:(pageOf L 1).length=256:=pageOf_len (by omega);have hby:∀p,Bys (pageOf L p):=fun p z hz=>hbL z (jV (jT hz))
   have hcho:=choose_v (some ⟨g0,0,none⟩) (some ⟨g1,0,none⟩) c0 c1 256 256 (pageOf L 0) (pageOf L 1) wr (hO0.row' (hby 0)).2 hp0 (hO1.row' (hby 1)).2 hp1 S HQ.out.2.1 P HQ.out.2.2.1 0 HQ.out.2.2.2.1;obtain ⟨x0,x1,-⟩:=hB.at;unfold spV at hcho;clear hB hO0 hO1 hlL hbL hp0 hp1 hby;go_wp2_with fail
   refine hcho.mono ?_;clear hcho;rintro e w3 ⟨rfl,hb3⟩;have hb:=HBB.out;have hs0:=H0.out.1;have hs1:=HI.out.1.2.2.size;have hFb:¬FD bb/\¬FD rb:=⟨fun h=>by have:=HD.out.2.2.2 _ h;omega,fun h=>by have:=HD.out.2.2.2 _ h;omega⟩
   have H3:Hid (Dev w3 d FD (rdK D0 2)/\(∀j,j<2->tellsD (rdK D0 j)=true)/\Ch w.heap.size FD w w3/\w3.heap[rb]?=some (.cells rpt0 85 (0,0))):=by
    have h1:Ch w.heap.size FD w wr:=(Ch.of FD H0.out.2.2.1).trans (HI.out.1.2.2.mono H0.out.2.2.1.size (fun k hk e=>by rcases e with e|e;exact e;omega));have h2:=H0.out.2.1;rw [hb.2] at h2;exact ⟨HI.out.1.1.below hb3,HI.out.1.2.1,h1.trans (Ch.of FD (hb3.mono h1.size)),((hb3.block rb (by omega)).trans (HI.out.1.2.2.block rb (by omega) (fun e=>by rcases e with e|e;exact hFb.2 e;omega))).trans h2⟩
   have hr3:=heap_lt H3.out.2.2.2;have hs3:=H3.out.2.2.1.size;obtain ⟨w4,hw4⟩:∃w4,w3.alloc (.cells #[.int .i64 S.g,.int .i64 S.p,.int .i64 S.r,.int .i64 S.h,.int .i64 S.b,.int .i64 S.l,.int .i64 S.s,.int .i64 S.f] 29)=w4:=⟨_,rfl⟩
   have H4:Hid (Dev w4 d FD (rdK D0 2)/\Ch w.heap.size FD w w4/\w4.heap[rb]?=some (.cells rpt0 85 (0,0))/\rb<w4.heap.size/\w.heap.size<=w4.heap.size):=by
    have hbel:Below w3.heap.size w3 w4:=by rw [<-hw4];exact (Below.refl _ w3).alloc (jB _) _
    have:=hbel.size;exact ⟨H3.out.1.below hbel,H3.out.2.2.1.trans (Ch.of FD (hbel.mono hs3)),(hbel.block rb hr3).trans H3.out.2.2.2,by omega,by omega⟩
   clear hb3 HI hk hlt HGK x0 x1;have hrk:=rdK_is D0 2
   have hok:okS S=true:=by
    have:=ch_ok HQ.out.2.2.2.1;rw [HQ.out.2.1] at this;exact this
   have hwk:=walk0 (L:=L) (N:=N) H4.out.1 (rdK_well HQ.out.1 2) (by rw [hrk.1];exact HD.out.1) (by rw [hrk.2.1];exact HD.out.2.1) (by have:=hrk.2.2.1;have:=HD.out.2.2.1;omega) S hok HQ.out.2.2.2.2.1 HQ.out.2.2.2.2.2.1 HQ.out.2.2.2.2.2.2.1 HQ.out.2.2.2.2.2.2.2.1 HQ.out.2.2.2.2.2.2.2.2;unfold spV at hwk;have hsb:w4.heap[w3.heap.size]?=some (.cells (spC' S) 29 (0,0)):=by rw [<-hw4];exact heap_alloc_new w3 _
   have hc:∀i,w4.cell? ⟨w3.heap.size,i,none⟩=(spC' S)[i]?:=fun i=>cell_of_row w4 _ _ _ _ (0,0) hsb
   have s0:w4.cell? ⟨w3.heap.size,0,none⟩=some (.int .i64 S.g):=by rw [hc];rfl
   have s1:w4.cell? ⟨w3.heap.size,1,none⟩=some (.int .i64 S.p):=by rw [hc];rfl
   have s2:w4.cell? ⟨w3.heap.size,2,none⟩=some (.int .i64 S.r):=by rw [hc];rfl
   have s3:w4.cell? ⟨w3.heap.size,3,none⟩=some (.int .i64 S.h):=by rw [hc];rfl
   have s4:w4.cell? ⟨w3.heap.size,4,none⟩=some (.int .i64 S.b):=by rw [hc];rfl
   have s5:w4.cell? ⟨w3.heap.size,5,none⟩=some (.int .i64 S.l):=by rw [hc];rfl
   have s6:w4.cell? ⟨w3.heap.size,6,none⟩=some (.int .i64 S.s):=by rw [hc];rfl
   have s7:w4.cell? ⟨w3.heap.size,7,none⟩=some (.int .i64 S.f):=by rw [hc];rfl
   clear hrk hok hc hsb;go_wp2_with fail
   refine hwk.mono ?_;clear hwk s0 s1 s2 s3 s4 s5 s6 s7;rintro e w5 ⟨v,k,aC,cC,rfl,hk,hdv,hch,hrep,hown⟩;obtain ⟨aP,cP,aT,cT,aS,cS,aG,cG,rfl,hrest⟩:=id hrep;simp only at hrep hrest ⊢;obtain ⟨cs,hcs⟩:∃cs,rpP S (-1) (.slice aP ([]:List C4).length cP) (.slice aT ([]:List Int).length cT) (.slice aS st.length cS) (.slice aG (rsB R3 N).length cG)=cs:=⟨_,rfl⟩;obtain ⟨cs',hcs'⟩:∃cs',rpP S P (.slice aP ([]:List C4).length cP) (.slice aT ([]:List Int).length cT) (.slice aS st.length cS) (.slice aG (rsB R3 N).length cG)=cs':=⟨_,rfl⟩;obtain ⟨cq,hcq⟩:∃cq,chQ L (N+1) S.s++chQ L (N+1) S.f=cq:=⟨_,rfl⟩;have HCQ:Hid (chQ L (N+1) S.s++chQ L (N+1) S.f=cq):=hcq;rw [hcq] at hown ⊢;obtain ⟨nc,hnc⟩:∃nc,cq.length=nc:=⟨_,rfl⟩;have HNC:Hid (cq.length=nc):=hnc;rw [hnc] at hown ⊢;have hr5:=(hch.block rb H4.out.2.2.2.1 hFb.2).trans H4.out.2.2.1;obtain ⟨f1,f2,f3,f4⟩:=fill_new (cs:=cs) hr5 (by rw [<-hcs];rfl) (by rw [<-hcs];exact rpP_one ..);rw [rpt0_lit] at f1 f2 f4;rw [show (w5.alloc (.cells rpt0 85))=(w5.alloc (.cells #[.int .i64 0,.int .i64 0,.int .i64 0,.int .i64 0,.int .i64 0,.int .i64 0,.int .i64 0,.int .i64 0,.int .i64 0,.slice none 0 0,.slice none 0 0,.slice none 0 0,.slice none 0 0] 85)) from rfl] at f3;obtain ⟨w6,hw6⟩:∃w6,(w5.alloc (.cells #[.int .i64 0,.int .i64 0,.int .i64 0,.int .i64 0,.int .i64 0,.int .i64 0,.int .i64 0,.int .i64 0,.int .i64 0,.slice none 0 0,.slice none 0 0,.slice none 0 0,.slice none 0 0] 85)).setRow w5.heap.size cs=w6:=⟨_,rfl⟩;rw [hw6] at f1 f2 f3 f4;have hr5l:=heap_lt hr5;have c8:w6.cell? ⟨w5.heap.size,8,none⟩=some (.int .i64 (-1)):=by rw [cell_of_row w6 _ _ _ _ (0,0) f2,<-hcs];exact rpP_8 ..
   have z8:w6.frozen? ⟨w5.heap.size,8,none⟩=false:=by unfold World.frozen?;rw [f2];simp
   have g2:(w6.setCell ⟨w5.heap.size,8,none⟩ (.int .i64 P)).heap[w5.heap.size]?=some (.cells cs' 85 (0,0)):=by
    rw [setCell_heap _ _ _ _ _ _ _ f2,<-hcs,<-hcs',rpP_place]
   have g3:(w6.setCell ⟨w5.heap.size,8,none⟩ (.int .i64 P)).heap[rb]?=some (.cells rpt0 85 (0,0)):=(Below.heap_setCell w6 ⟨w5.heap.size,8,none⟩ _ rb (by show ¬rb=w5.heap.size;omega)).trans f3;have hld:=LdP_run g2 (by rw [<-hcs'];rfl);have hst2:=StP_run (cs:=cs') g3 rfl (by rw [<-hcs'];rfl) (by rw [<-hcs'];exact rpP_one ..)
   have HE:Hid (((w6.setCell ⟨w5.heap.size,8,none⟩ (.int .i64 P)).setRow rb cs').heap[rb]?=some (.cells cs' 85 (0,0))/\cs'.size=13/\OpE w d FD D0 N ⟨S,P,[],[],st,rsB R3 N,S.h⟩ cq (.returned (.tuple #[.agg cs',.slice aC nc cC,.int .i64 0])) ((w6.setCell ⟨w5.heap.size,8,none⟩ (.int .i64 P)).setRow rb cs')):=by
    have hc8:Ch w5.heap.size (fun x=>x=rb) w5 ((w6.setCell ⟨w5.heap.size,8,none⟩ (.int .i64 P)).setRow rb cs'):=((Ch.of (fun x=>x=rb) f4).setCell (p:=⟨w5.heap.size,8,none⟩) (.inl (jB _)) _).setRow (.inr rfl) _;have h45:=hch.size;have hrl:=H4.out.2.2.2.1;have hwl:=H4.out.2.2.2.2;rw [rdK_add] at hdv;refine ⟨setRow_heap _ _ _ _ _ _ g3,by rw [<-hcs'];rfl,.agg cs',2+k,aC,cC,by rw [HNC.out],by omega,hdv.keep hc8.size (fun g hg=>hc8.block g (hdv.2.1 g hg) (fun e=>hFb.2 (e▸hg))),?_,?_,?_⟩
    ·refine H4.out.2.1.trans ((hch.mono hwl (fun _ _ h=>h)).trans (hc8.mono (by omega) (fun g hg e=>?_)));omega
    ·have hrep2:=RepP.keep (G':=fun k=>FD k\/w.heap.size<=k) hrep hc8.size (fun g hg hn hl=>hc8.block g hl (fun e=>by
       rcases hg with h|h
       ·exact hn h
       ·omega)) (fun g hg=>by
       rcases hg with h|h
       ·exact .inl h
       ·right;omega)
     have:=RepP.place (R:=⟨S,-1,[],[],st,rsB R3 N,S.h⟩) P hrep2;rw [hcs'] at this;exact this
    ·rw [HNC.out]
     have h5:OwnI w4.heap.size ((w6.setCell ⟨w5.heap.size,8,none⟩ (.int .i64 P)).setRow rb cs') (.slice aC nc cC) cq:=owns_keep hown (fun g hg=>by
      have:=World.ownsRow.lt hown g hg;exact hc8.block g this.2 (fun e=>by omega))
     exact owns_base h5 (fun g hg=>by have:=(World.ownsRow.lt hown g hg).1;omega)
   rw [hcs];clear hrep hrest hdv hch hk f2 f3 f4 g2 g3 hr5 hcs hcs' hw4 H3 hown hcq hnc;go_wp2;refine bodyPost_ret (results_rtt rfl _ _ rb _ rfl HE.out.1 HE.out.2.1) rfl ?_;rw [HCQ.out];exact HE.out.2.2
end Go.Proofs.YtaijfhadecennaaGreat.Oct
namespace Go.Proofs.YtaijfhadecennaaGreat.Oct.Sx
open Go.RowKit
attribute [local go_sem ↓] StP_eq
section
variable {w:World} {p d N s:Nat} {F:Nat->Prop} {D:Dv} {L:List Fr} {X:St}
theorem Pool.devS (h:Pool w p d F D N L):∃Fd,Dev w d Fd D/\(∀k,Fd k->F k)/\∀(w':World) (D':Dv),Dev w' d Fd D'->D'.n=D.n->Ch w.heap.size Fd w w'->Pool w' p d F D' N L:=by
 obtain ⟨Fd,m,e,bs,fr,ol,nw,h,rfl⟩:=h;refine ⟨Fd,h.dev,fun k hk=>(h.fd k hk).1,fun w' D' h' hn hc=>⟨Fd,m,e,bs,fr,ol,nw,⟨h',?_,h.fd,h.fp,fun k hk=>qA (h.flt k hk) hc.size⟩,rfl⟩⟩;rw [hn];exact h.pool.keep (fun g hg=>hc.block g (h.pool.lt g hg) (fun e1=>(h.fd g e1).2 hg))
theorem Sto.devS (h:Sto w s d F X):∃Fd,Dev w d Fd X.D/\(∀k,Fd k->F k)/\∀(w':World) (D':Dv),Dev w' d Fd D'->D'.n=X.D.n->Ch w.heap.size Fd w w'->Sto w' s d F {X with D:=D'}:=by
 obtain ⟨p,sp,aC,cC,lab,hS,hlab,hlt⟩:=h;obtain ⟨F1,hp,hF1⟩:=hS.pool;obtain ⟨F2,q1,q2⟩:=hS.space;obtain ⟨Fd,h1,h2,h3⟩:=Pool.devS hp;refine ⟨Fd,h1,fun k hk=>hlab k (by have:=hF1 k (h2 k hk);omega),fun w' D' hd hn hc=>⟨p,sp,aC,cC,lab,?_,hlab,fun k hk=>qA (hlt k hk) hc.size⟩⟩;have kp:∀k,k<w.heap.size->lab k≠1->w'.heap[k]?=w.heap[k]?:=fun k hk hl=>hc.block k hk (fun e=>hl (hF1 k (h2 k e)))
 have hcl:∀k,obl aC k->k<w.heap.size:=fun k hk=>(World.ownsRow.lt hS.ch k (own_obl hk)).2
 exact ⟨(kp s hS.lt (by rw [hS.l0];decide)).trans hS.cells,hS.l0,⟨F1,h3 w' D' hd hn hc,hF1⟩,⟨F2,spa_keep q1 hc.size (fun k hk=>kp k (spa_lt q1 k hk) (by rw [q2 k hk];decide)),q2⟩,
  owns_keep hS.ch (fun k hk=>kp k (hcl k (obl_own hk)) (by rw [hS.lc k (obl_own hk)];decide)),hS.lc⟩
end
section
variable {w:World} {d N n:Nat} {Fd:Nat->Prop} {D0:Dv} {L:List Int}
set_option maxRecDepth 20000 in
theorem Open_yes (h:Dev w d Fd D0) (h8N:8<=N) (h4N:N<=4096) (hn:D0.n=n) (hw:Well D0) (hok:D0.ok) (hops:D0.ops<=999999990) (hL:D0.now=L) (S:Sp) (P:Int) (hS:chS (pageOf L 0) (pageOf L 1)=S) (hP:chP (pageOf L 0) (pageOf L 1)=P) (hE:chE (pageOf L 0) (pageOf L 1)=0) (hp:S.p=(n:Int)) (hr0:S.r=0)
  {R2 R3:List Bool} {st fr:List Int} (hc1:chB L (n+1) S.s (rN L) []=some (R2,st)) (hc2:chB L (n+1) S.f R2 []=some (R3,fr)) (hu:fr=usedL R3) (hld:Ld2 n (chQ L (n+1) S.s++chQ L (n+1) S.f) R3):
  Calls Tryz.prog 12 #[.pointer (some ⟨d,0,none⟩),.int .i64 N] w fun e w'=>∃s k,e=.returned (.tuple #[.pointer (some ⟨s,0,none⟩),.int .i64 0])/\k<=n+2/\StoO w w' Fd s d ⟨rdK D0 k,N,[],ldS (usedL R3) n,S,P,chQ L (n+1) S.s++chQ L (n+1) S.f,S.g⟩:=by
 have h8:8<=n:=by rw [<-hn];exact hok.n8
 have h4:n<=4096:=by rw [<-hn];exact hok.n4
 have hpn:=pNew_yes h N h8N h4N;have hch:=fun (wx:World) (Fx:Nat->Prop) (hd:Dev wx d Fx D0)=>chains0 hd hw hL hn (by omega) S P hS hP hE hp hr0 hc1 hc2 hu
 obtain ⟨C,hC⟩:∃C,chQ L (n+1) S.s++chQ L (n+1) S.f=C:=⟨_,rfl⟩;rw [hC] at hch hld ⊢
 have hbt:btK n (rsB R3 n) 2 (rsB R3 n).length=usedL R3:=by
  unfold btK usedL;rw [List.take_length,hld.len];refine bitsP_ext fun i hi=>?_
  congr 1
  apply Bool.eq_iff_iff.2;rw [xO,rsB_in];constructor
  ·rintro ⟨j,e,_,hj⟩;have:i=j:=by omega
   rw [this];exact hj
  ·intro hj;refine ⟨i,rfl,?_,hj⟩;by_cases hin:i<n
   ·exact hin
   ·rw [jA,qC (by rw [hld.len];omega)] at hj;cases hj
 have hE0:ldE (usedL R3) (n:Int)=0:=by
  unfold ldE;rw [if_pos ⟨by omega,by omega⟩,jS,hld.ok h8,if_pos rfl]
 have HK:Hid (D0.n=n/\8<=n/\n<=4096/\btK n (rsB R3 n) 2 (rsB R3 n).length=usedL R3/\ldE (usedL R3) (n:Int)=0/\Ld2 n C R3/\(rsB R3 n).length<=4096/\C.length<=4096):=
  ⟨hn,h8,h4,hbt,hE0,hld,by have:=rsB_len R3 n;omega,by have:=ct_le hld.c (fun i hi=>hld.cn _ (by rw [jA,jC hi];exact qD _));omega⟩
 clear h hn h8 h4 hw hok hops hL hS hP hE hp hr0 hc1 hc2 hu hld hbt hE0 hC h8N h4N;go_enter Tryz.func12,Tryz.ntmps12
 go_upto_region 7 with (first
  |(go_at_call 46;refine hpn.mono ?_;rintro e w1 ⟨p,F1,rfl,h1,h2,h3,h4⟩
    obtain ⟨Fd1,d1,d2,d3⟩:=Pool.devS h1;have hch1:=hch w1 Fd1 d1;have H1:Hid (Pool w1 p d F1 D0 N []/\Below w.heap.size w w1/\(∀k,F1 k->Fd k\/w.heap.size<=k)/\(∀k,Fd1 k->F1 k)/\∀(w':World) (D':Dv),Dev w' d Fd1 D'->D'.n=D0.n->Ch w1.heap.size Fd1 w1 w'->Pool w' p d F1 D' N []):=⟨h1,h2,h3,d2,d3⟩;clear hpn hch h1 h2 h3 h4 d1 d2 d3)
  |(go_at_call 52;refine hch1.mono ?_;rintro e w2 ⟨v,k,aC,cC,rfl,hk,hdv,hc2,hrp,hoC⟩
    obtain ⟨aP,cP,aT,cT,aS,cS,aG,cG,rfl,-,-,-,hrG,hob⟩:=hrp;dsimp only at hrG hob;have hfill:=StP_run (w:=w2.alloc (.cells rpt0 85)) (cs:=(rpP S P (.slice aP 0 cP) (.slice aT 0 cT) (.slice aS st.length cS) (.slice aG (rsB R3 n).length cG))) (heap_alloc_new w2 _) rfl rfl (rpP_one ..);obtain ⟨w3,hw3⟩:∃w3,(w2.alloc (.cells rpt0 85)).setRow w2.heap.size (rpP S P (.slice aP 0 cP) (.slice aT 0 cT) (.slice aS st.length cS) (.slice aG (rsB R3 n).length cG))=w3:=⟨_,rfl⟩;rw [hw3,rpt0_lit] at hfill
    have H3:Hid (w3.heap[w2.heap.size]?=some (.cells (rpP S P (.slice aP 0 cP) (.slice aT 0 cT) (.slice aS st.length cS) (.slice aG (rsB R3 n).length cG)) 85 (0,0))/\Below w2.heap.size w2 w3/\w3.heap.size=w2.heap.size+1):=by
     rw [<-hw3];exact ⟨setRow_heap _ _ _ _ _ _ (heap_alloc_new w2 _),((Ch.of (fun _=>False) ((Below.refl _ w2).alloc (jB _) _)).setRow (.inl (jB _)) _).below (fun k e=>by cases e),by simp [World.setRow]⟩
    have H2:Hid (k<=n+2/\Dev w2 d Fd1 (rdK D0 k)/\Ch w1.heap.size Fd1 w1 w2/\RowI w2 aG cG (rsB R3 n)/\(∀j,obl aG j->¬Fd1 j/\j<w2.heap.size)/\OwnI w1.heap.size w2 (.slice aC C.length cC) C):=
     ⟨hk,hdv,hc2,hrG,fun j hj=>(hob j (.inr (.inr (.inr hj)))).1,hoC⟩
    clear hch1 hk hdv hc2 hrG hob hoC hw3))
 obtain ⟨nC,hnC⟩:∃nC,C.length=nC:=⟨_,rfl⟩;obtain ⟨nG,hnG⟩:∃nG,(rsB R3 n).length=nG:=⟨_,rfl⟩;have HN:Hid (C.length=nC/\(rsB R3 n).length=nG):=⟨hnC,hnG⟩
 have xc:∀i,w3.cell? ⟨w2.heap.size,i,none⟩=(rpP S P (.slice aP 0 cP) (.slice aT 0 cT) (.slice aS st.length cS) (.slice aG nG cG))[i]?:=fun i=>by
  rw [cell_of_row _ _ _ _ _ (0,0) H3.out.1,<-hnG]
 have x0:w3.cell? ⟨w2.heap.size,0,none⟩=some (.int .i64 S.g):=xc 0;have x1:w3.cell? ⟨w2.heap.size,1,none⟩=some (.int .i64 S.p):=xc 1;have x2:w3.cell? ⟨w2.heap.size,2,none⟩=some (.int .i64 S.r):=xc 2;have x3:w3.cell? ⟨w2.heap.size,3,none⟩=some (.int .i64 S.h):=xc 3;have x4:w3.cell? ⟨w2.heap.size,4,none⟩=some (.int .i64 S.b):=xc 4;have x5:w3.cell? ⟨w2.heap.size,5,none⟩=some (.int .i64 S.l):=xc 5;have x6:w3.cell? ⟨w2.heap.size,6,none⟩=some (.int .i64 S.s):=xc 6;have x7:w3.cell? ⟨w2.heap.size,7,none⟩=some (.int .i64 S.f):=xc 7;have x8:w3.cell? ⟨w2.heap.size,8,none⟩=some (.int .i64 P):=xc 8;have x12:w3.cell? ⟨w2.heap.size,12,none⟩=some (.slice aG nG cG):=xc 12;rw [hnC];clear xc hfill hnC hnG;go_upto_region 8 with fail
 obtain ⟨w4,hw4⟩:∃w4,w3.alloc (Obj.cells #[Value.pointer (some {block:=d,off:=0}),Value.pointer (some {block:=p,off:=0}),Value.pointer none,Value.int IntKind.i64 S.g,Value.int IntKind.i64 S.p,Value.int IntKind.i64 S.r,Value.int IntKind.i64 S.h,Value.int IntKind.i64 S.b,Value.int IntKind.i64 S.l,Value.int IntKind.i64 S.s,Value.int IntKind.i64 S.f,Value.int IntKind.i64 P,Value.slice aC nC cC,Value.int IntKind.i64 S.g,Value.pointer none,Value.map none] 81)=w4:=⟨_,rfl⟩;rw [hw4];obtain ⟨s,hs⟩:∃s,w3.heap.size=s:=⟨_,rfl⟩;have hb4:Below w3.heap.size w3 w4:=by rw [<-hw4];exact (Below.refl _ w3).alloc (jB _) _
 have hc4:w4.heap[s]?=some (.cells #[Value.pointer (some {block:=d,off:=0}),Value.pointer (some {block:=p,off:=0}),Value.pointer none,Value.int IntKind.i64 S.g,Value.int IntKind.i64 S.p,Value.int IntKind.i64 S.r,Value.int IntKind.i64 S.h,Value.int IntKind.i64 S.b,Value.int IntKind.i64 S.l,Value.int IntKind.i64 S.s,Value.int IntKind.i64 S.f,Value.int IntKind.i64 P,Value.slice aC nC cC,Value.int IntKind.i64 S.g,Value.pointer none,Value.map none] 81 (0,0)):=by rw [<-hw4,<-hs];exact heap_alloc_new w3 _
 have hsl:=heap_lt hc4;have y12:w4.cell? ⟨w2.heap.size,12,none⟩=some (.slice aG nG cG):=(hb4.cell (p:=⟨w2.heap.size,12,none⟩) (by have:=H3.out.2.2;show w2.heap.size<_;omega)).trans x12;have hbo:Below w2.heap.size w2 w4:=H3.out.2.1.trans (hb4.mono H3.out.2.1.size)
 have hd4:Pool w4 p d F1 (rdK D0 k) N []:=by
  obtain ⟨_,a2,a3,_⟩:=H2.out;have h1:=H1.out.2.2.2.2 w2 (rdK D0 k) a2 (rdK_n D0 k) a3;exact h1.below hbo
 have hpg:=Pool_pages (w:=w4.drew) (Pool.keep hd4 (jB _) (fun _ _=>rfl));rw [rdK_n,HK.out.1] at hpg
 have hbit:=bitsOf_any (w:=w4.drew) n aG cG (rsB R3 n) (by
  obtain ⟨_,_,_,a4,a5,_⟩:=H2.out
  exact (RowI.keepO' a4 (fun g hg=>hbo.block g (a5 g hg).2):RowI w4 aG cG (rsB R3 n))) HK.out.2.1 HK.out.2.2.1 (fun z hz=>by
   have h1:=(HK.out.2.2.2.2.2.1.rs z).1 hz;have h2:=ct_mem HK.out.2.2.2.2.2.1.c z h1;have h3:=HK.out.2.2.2.2.2.1.cn z h1;exact ⟨by omega,h3⟩) HK.out.2.2.2.2.2.2.1
 rw [HK.out.2.2.2.1,HN.out.2] at hbit;have hul:(usedL R3).length=(n+7)/8:=by rw [usedL_len,HK.out.2.2.2.2.2.1.len]
 have HU:Hid ((usedL R3).length=(n+7)/8/\Pool w4 p d F1 (rdK D0 k) N []/\Below w2.heap.size w2 w4/\w3.heap.size=s/\s<w4.heap.size):=⟨hul,hd4,hbo,hs,hsl⟩;rw [hs];clear hw4 hb4 hd4 hbo hul x0 x1 x2 x3 x4 x5 x6 x7 x8 x12 hs;have HC4:Hid (w4.heap[s]?=some (.cells #[Value.pointer (some {block:=d,off:=0}),Value.pointer (some {block:=p,off:=0}),Value.pointer none,Value.int IntKind.i64 S.g,Value.int IntKind.i64 S.p,Value.int IntKind.i64 S.r,Value.int IntKind.i64 S.h,Value.int IntKind.i64 S.b,Value.int IntKind.i64 S.l,Value.int IntKind.i64 S.s,Value.int IntKind.i64 S.f,Value.int IntKind.i64 P,Value.slice aC nC cC,Value.int IntKind.i64 S.g,Value.pointer none,Value.map none] 81 (0,0))):=hc4;clear hc4
 go_region_held3 (fun w'=>w'.cell? ⟨w2.heap.size,12,none⟩=some (.slice aG nG cG)) (first|go_keep|assumption) (first
  |(go_at_call 48;refine hpg.mono ?_;rintro e w' ⟨rfl,rfl⟩)
  |(go_at_call 54;refine hbit.mono ?_;rintro e w5 ⟨gb,cb,rfl,hob,hbb'⟩
    have hbb:Below w4.heap.size w4 w5:=⟨hbb'.os,hbb'.tape,hbb'.output,hbb'.size,hbb'.block⟩;have hob2:Own w4.heap.size w5 (.slice (some ⟨gb,0,none⟩) ((n+7)/8) cb) (usedL R3):=hob;have hlo:=Sps.load_any (n:Int) (some ⟨gb,0,none⟩) cb (usedL R3) w5 (hob2.row' (usedL_bys R3)).2 (by have:=HU.out.1;have:=HK.out.2.2.1;omega);rw [HU.out.1] at hlo;have z12:w5.cell? ⟨w2.heap.size,12,none⟩=some (.slice aG nG cG):=(hbb.cell (p:=⟨w2.heap.size,12,none⟩) (block_lt_of_cell y12)).trans y12;have H5:Hid (Below w4.heap.size w4 w5):=hbb;clear hbit hob hob2 hbb hbb')
  |(go_at_call 53;refine hlo.mono ?_;rintro e w6 ⟨hb6,hd⟩
    have hd2:=hd.resolve_left (fun h=>h.1 HK.out.2.2.2.2.1);obtain ⟨_,sp,F6,rfl,hsp,hF6⟩:=hd2;rw [jS] at hsp;have hb46:Below w4.heap.size w4 w6:=H5.out.trans (hb6.mono H5.out.size);have u12:w6.cell? ⟨w2.heap.size,12,none⟩=some (.slice aG nG cG):=(hb46.cell (p:=⟨w2.heap.size,12,none⟩) (block_lt_of_cell y12)).trans y12;have hc6:=(hb46.block s HU.out.2.2.2.2).trans HC4.out;have u2:w6.cell? ⟨s,2,none⟩=some (.pointer none):=by rw [cell_of_row _ _ _ _ _ (0,0) hc6];rfl
    have uf:∀i,w6.frozen? ⟨s,i,none⟩=false:=fun i=>by unfold World.frozen?;rw [hc6];simp
    have v12:(w6.setCell ⟨s,2,none⟩ (.pointer (some ⟨sp,0,none⟩))).cell? ⟨w2.heap.size,12,none⟩=some (.slice aG nG cG):=by
     refine (World.cell?_of_block (w:=w6) (a:=⟨w2.heap.size,12,none⟩) (Below.heap_setCell w6 ⟨s,2,none⟩ _ w2.heap.size ?_)).trans u12;have h1:=HU.out.2.2.2.1;have h2:=H3.out.2.2;show ¬w2.heap.size=s;omega
    have H6:Hid (Below w4.heap.size w4 w6/\Sps.Spa w6 sp F6 (ldS (usedL R3) n)/\(∀j,F6 j->w5.heap.size<=j)/\Below w4.heap.size w4 w5/\w6.heap[s]?=some (.cells #[Value.pointer (some {block:=d,off:=0}),Value.pointer (some {block:=p,off:=0}),Value.pointer none,Value.int IntKind.i64 S.g,Value.int IntKind.i64 S.p,Value.int IntKind.i64 S.r,Value.int IntKind.i64 S.h,Value.int IntKind.i64 S.b,Value.int IntKind.i64 S.l,Value.int IntKind.i64 S.s,Value.int IntKind.i64 S.f,Value.int IntKind.i64 P,Value.slice aC nC cC,Value.int IntKind.i64 S.g,Value.pointer none,Value.map none] 81 (0,0))):=⟨hb46,hsp,hF6,H5.out,hc6⟩;clear hlo hb6 hd hsp hF6 hb46 hc6))
 obtain ⟨w7,hw7⟩:∃w7,w6.setCell ⟨s,2,none⟩ (.pointer (some ⟨sp,0,none⟩))=w7:=⟨_,rfl⟩
 have HF:Hid (k<=n+2/\StoO w w7 Fd s d ⟨rdK D0 k,N,[],ldS (usedL R3) n,S,P,C,S.g⟩):=by
  show _/\_;refine ⟨H2.out.1,?_⟩
  classical
  obtain ⟨a1,a2,a3,a4,a5,a6⟩:=H2.out;obtain ⟨b1,b2,b3,b4,b5⟩:=H1.out;obtain ⟨c1,c2,c3,c4,c5⟩:=HU.out;obtain ⟨d1,d2,d3,d4,d5⟩:=H6.out;obtain ⟨e1,e2,e3⟩:=H3.out;have hc7:Ch w6.heap.size (fun k=>k=s) w6 w7:=by rw [<-hw7];exact Ch.set (F:=fun k=>k=s) (p:=s) rfl 2 _
  have l1:=b1.lt;have lC:∀j,obl aC j->w1.heap.size<=j/\j<w2.heap.size:=fun j hj=>World.ownsRow.lt a6 j (own_obl hj)
  have l6:=spa_lt d2;have z1:=b2.size;have z2:=a3.size;have z4:=d4.size;have z6:=d1.size
  have hcel:w7.heap[s]?=some (.cells (stC d p sp S P (.slice aC C.length cC) S.g) 81 (0,0)):=by
   rw [<-hw7,setCell_heap _ _ _ _ _ _ _ d5,HN.out.1];rfl
  have kp:∀j,j<w4.heap.size->j≠s->w7.heap[j]?=w4.heap[j]?:=fun j hj hne=>(hc7.block j (by omega) hne).trans (d1.block j hj)
  have n1C:∀j,obl aC j->¬F1 j:=fun j hj e=>by have:=lC j hj;have:=l1 j e;omega
  have n61:∀j,F6 j->¬F1 j:=fun j hj e=>by have:=d3 j hj;have:=l1 j e;omega
  have n6C:∀j,F6 j->¬obl aC j:=fun j hj e=>by have:=d3 j hj;have:=lC j e;omega
  have ns1:¬F1 s:=fun e=>by have:=l1 s e;omega
  have ns6:¬F6 s:=fun e=>by have:=d3 s e;omega
  refine ⟨p,sp,aC,cC,fun j=>if F1 j then 1 else if F6 j then 2 else if j=s then 0 else if obl aC j then 3 else 10,⟨hcel,?_,⟨F1,c2.keep (by have:=hc7.size;omega) (fun j hj=>kp j (by have:=l1 j hj;omega) (fun e=>ns1 (e▸hj))),fun j hj=>if_pos hj⟩,⟨F6,spa_keep d2 hc7.size (fun j hj=>hc7.block j (l6 j hj) (fun e=>ns6 (e▸hj))),fun j hj=>?_⟩,?_,fun j hj=>?_⟩,fun j hj=>?_,?_⟩
  ·show (if F1 s then 1 else if F6 s then 2 else if s=s then 0 else if obl aC s then 3 else 10)=0;rw [if_neg ns1,if_neg ns6,if_pos rfl]
  ·show (if F1 j then 1 else if F6 j then 2 else if j=s then 0 else if obl aC j then 3 else 10)=2;rw [if_neg (n61 j hj),if_pos hj]
  ·refine owns_base (owns_keep a6 (fun j hj=>?_)) (fun _ _=>jU _);have h1:=lC j (obl_own hj);exact (kp j (by omega) (by omega)).trans (c3.block j h1.2)
  ·show (if F1 j then 1 else if F6 j then 2 else if j=s then 0 else if obl aC j then 3 else 10)=3;rw [if_neg (n1C j hj),if_neg (fun e=>n6C j e hj),if_neg (by have:=lC j hj;omega),if_pos hj]
  ·replace hj:(if F1 j then 1 else if F6 j then 2 else if j=s then 0 else if obl aC j then 3 else 10)<=3:=hj
   split at hj
   ·next h=>exact b3 j h
   ·split at hj
    ·next _ h=>have:=d3 j h;exact .inr (by omega)
    ·split at hj
     ·next _ _ h=>exact .inr (by omega)
     ·split at hj
      ·next _ _ _ h=>have:=lC j h;exact .inr (by omega)
      ·omega
  ·have hcA:Ch w.heap.size Fd w w2:=(Ch.of Fd b2).trans (a3.mono z1 (fun j hj e=>by
    rcases b3 j (b4 j e) with h|h
    ·exact h
    ·omega))
   have hcB:Ch w.heap.size Fd w w6:=(hcA.trans (Ch.of Fd (c3.mono (by omega)))).trans (Ch.of Fd (d1.mono (by omega)));exact hcB.trans (hc7.mono (by omega) (fun j hj e=>by omega))
 clear H1 H2 H3 H5 H6 HU HC4 v12 u12 u2 uf z12 y12 hpg;go_wp2_with fail
 go_ret2
 exact ⟨s,k,rfl,HF.out.1,HF.out.2⟩
end
end Go.Proofs.YtaijfhadecennaaGreat.Oct.Sx
namespace Go.Proofs.YtaijfhadecennaaGreat.Oct
open Go.RowKit
set_option maxRecDepth 20000 in
theorem rsame_yes {w:World} {S:Sp} {pl h h':Int} {aP aT aS aG bP bT bS bG:Option Addr} {cP cT cS cG dP dT dS dG n1 n2 n3 n4:Nat} {pc:List C4} {tx st pg:List Int}
  (p1:RowC w aP cP pc) (p2:RowC w bP dP pc) (t1:Row w aT cT tx) (t2:Row w bT dT tx) (s1:Row w aS cS st) (s2:Row w bS dS st) (g1:RowI w aG cG pg) (g2:RowI w bG dG pg) (e1:pc.length=n1) (e2:tx.length=n2) (e3:st.length=n3) (e4:pg.length=n4):
  Calls Tryz.prog 119 #[.agg (rpC S pl (.slice aP n1 cP) (.slice aT n2 cT) (.slice aS n3 cS) (.slice aG n4 cG) h),.agg (rpC S pl (.slice bP n1 dP) (.slice bT n2 dT) (.slice bS n3 dS) (.slice bG n4 dG) h')] w fun e w'=>e=.returned (.bool true)/\Below w.heap.size w w':=by
 unfold rpC;go_enter Tryz.func119,Tryz.ntmps119
 go_upto_region 1 with fail
 obtain ⟨w0,hw0⟩:∃w0,((w.alloc (.cells #[.int .i64 S.g,.int .i64 S.p,.int .i64 S.r,.int .i64 S.h,.int .i64 S.b,.int .i64 S.l,.int .i64 S.s,.int .i64 S.f,.int .i64 pl,.slice aP n1 cP,.slice aT n2 cT,.slice aS n3 cS,.slice aG n4 cG,.int .i64 h] 95)).alloc (.cells #[.int .i64 S.g,.int .i64 S.p,.int .i64 S.r,.int .i64 S.h,.int .i64 S.b,.int .i64 S.l,.int .i64 S.s,.int .i64 S.f,.int .i64 pl,.slice bP n1 dP,.slice bT n2 dT,.slice bS n3 dS,.slice bG n4 dG,.int .i64 h'] 95))=w0:=⟨_,rfl⟩;rw [hw0]
 have HX:Hid (Below w.heap.size w w0/\w0.heap.size=w.heap.size+2/\w0.heap[w.heap.size]?=some (.cells (rpC S pl (.slice aP n1 cP) (.slice aT n2 cT) (.slice aS n3 cS) (.slice aG n4 cG) h) 95 (0,0))/\w0.heap[w.heap.size+1]?=some (.cells (rpC S pl (.slice bP n1 dP) (.slice bT n2 dT) (.slice bS n3 dS) (.slice bG n4 dG) h') 95 (0,0))):=by
  rw [<-hw0];exact ⟨((Below.refl _ w).alloc (jB _) _).alloc (by simp) _,by simp,heap_alloc2_old w _ _,heap_alloc2_new w _ _⟩
 have HR:Hid ((RowC w aP cP pc/\RowC w bP dP pc/\RowI w aG cG pg/\RowI w bG dG pg)/\Row w aT cT tx/\Row w bT dT tx/\Row w aS cS st/\Row w bS dS st):=⟨⟨p1,p2,g1,g2⟩,t1,t2,s1,s2⟩;have HL:Hid (pc.length=n1/\pg.length=n4):=⟨e1,e4⟩;obtain ⟨ra,hra⟩:∃ra,w.heap.size=ra:=⟨_,rfl⟩;have HRA:Hid (w.heap.size=ra):=hra
 have key:∀w1,Below w0.heap.size w0 w1->(∀i,w1.cell? ⟨ra,i,none⟩=(rpC S pl (.slice aP n1 cP) (.slice aT n2 cT) (.slice aS n3 cS) (.slice aG n4 cG) h)[i]?)/\(∀i,w1.cell? ⟨ra+1,i,none⟩=(rpC S pl (.slice bP n1 dP) (.slice bT n2 dT) (.slice bS n3 dS) (.slice bG n4 dG) h')[i]?)/\Below w.heap.size w w1:=fun w1 hb=>by
  have hs:=HX.out.2.1;rw [<-hra];exact ⟨fun i=>cell_of_row w1 _ _ _ _ (0,0) ((hb.block _ (by omega)).trans HX.out.2.2.1),fun i=>cell_of_row w1 _ _ _ _ (0,0) ((hb.block _ (by omega)).trans HX.out.2.2.2),HX.out.1.trans (hb.mono HX.out.1.size)⟩
 rw [hra];have HK:Hid _:=key;have m1:=jN p1.2.1 p1.2.2.1;have m2:=jN t1.2.1 t1.2.2.1;have m3:=jN s1.2.1 s1.2.2.1;have m4:=jN g1.1 g1.2.1;rw [e1] at m1;rw [e2] at m2;rw [e3] at m3;rw [e4] at m4;unfold maxLen at m1 m2 m3 m4;obtain ⟨ka,kb,-⟩:=key w0 (Below.refl _ _);have a0:w0.cell? ⟨ra,0,none⟩=some (.int .i64 S.g):=by rw [ka];rfl
 have a1:w0.cell? ⟨ra,1,none⟩=some (.int .i64 S.p):=by rw [ka];rfl
 have a2:w0.cell? ⟨ra,2,none⟩=some (.int .i64 S.r):=by rw [ka];rfl
 have a3:w0.cell? ⟨ra,3,none⟩=some (.int .i64 S.h):=by rw [ka];rfl
 have a4:w0.cell? ⟨ra,4,none⟩=some (.int .i64 S.b):=by rw [ka];rfl
 have a5:w0.cell? ⟨ra,5,none⟩=some (.int .i64 S.l):=by rw [ka];rfl
 have a6:w0.cell? ⟨ra,6,none⟩=some (.int .i64 S.s):=by rw [ka];rfl
 have a7:w0.cell? ⟨ra,7,none⟩=some (.int .i64 S.f):=by rw [ka];rfl
 have a8:w0.cell? ⟨ra,8,none⟩=some (.int .i64 pl):=by rw [ka];rfl
 have a9:w0.cell? ⟨ra,9,none⟩=some (.slice aP n1 cP):=by rw [ka];rfl
 have a10:w0.cell? ⟨ra,10,none⟩=some (.slice aT n2 cT):=by rw [ka];rfl
 have a11:w0.cell? ⟨ra,11,none⟩=some (.slice aS n3 cS):=by rw [ka];rfl
 have a12:w0.cell? ⟨ra,12,none⟩=some (.slice aG n4 cG):=by rw [ka];rfl
 have b0:w0.cell? ⟨ra+1,0,none⟩=some (.int .i64 S.g):=by rw [kb];rfl
 have b1:w0.cell? ⟨ra+1,1,none⟩=some (.int .i64 S.p):=by rw [kb];rfl
 have b2:w0.cell? ⟨ra+1,2,none⟩=some (.int .i64 S.r):=by rw [kb];rfl
 have b3:w0.cell? ⟨ra+1,3,none⟩=some (.int .i64 S.h):=by rw [kb];rfl
 have b4:w0.cell? ⟨ra+1,4,none⟩=some (.int .i64 S.b):=by rw [kb];rfl
 have b5:w0.cell? ⟨ra+1,5,none⟩=some (.int .i64 S.l):=by rw [kb];rfl
 have b6:w0.cell? ⟨ra+1,6,none⟩=some (.int .i64 S.s):=by rw [kb];rfl
 have b7:w0.cell? ⟨ra+1,7,none⟩=some (.int .i64 S.f):=by rw [kb];rfl
 have b8:w0.cell? ⟨ra+1,8,none⟩=some (.int .i64 pl):=by rw [kb];rfl
 have b9:w0.cell? ⟨ra+1,9,none⟩=some (.slice bP n1 dP):=by rw [kb];rfl
 have b10:w0.cell? ⟨ra+1,10,none⟩=some (.slice bT n2 dT):=by rw [kb];rfl
 have b11:w0.cell? ⟨ra+1,11,none⟩=some (.slice bS n3 dS):=by rw [kb];rfl
 have b12:w0.cell? ⟨ra+1,12,none⟩=some (.slice bG n4 dG):=by rw [kb];rfl
 have C1:=same_any aT bT cT dT tx tx w0 (t1.below HX.out.1) (t2.below HX.out.1);rw [e2,show sameB tx tx=true from by unfold sameB;simp] at C1;have HS1:Hid (st.length=n3):=e3;clear hw0 p1 p2 t1 t2 s1 s2 g1 g2 e1 e2 e3 e4 hra key ka kb;go_wp2_with fail
 refine C1.mono ?_;clear C1;rintro e w1 ⟨rfl,hb1⟩;clear a0 a1 a2 a3 a4 a5 a6 a7 a8 a9 a10 a11 a12 b0 b1 b2 b3 b4 b5 b6 b7 b8 b9 b10 b11 b12;obtain ⟨ka,kb,hw1⟩:=HK.out w1 hb1;have a11:w1.cell? ⟨ra,11,none⟩=some (.slice aS n3 cS):=by rw [ka];rfl
 have b11:w1.cell? ⟨ra+1,11,none⟩=some (.slice bS n3 dS):=by rw [kb];rfl
 have C2:=same_any aS bS cS dS st st w1 (HR.out.2.2.2.1.below hw1) (HR.out.2.2.2.2.below hw1);rw [HS1.out,show sameB st st=true from by unfold sameB;simp] at C2;have HB1:Hid (Below w0.heap.size w0 w1):=hb1;clear ka kb hw1 hb1;go_wp2_with fail
 refine C2.mono ?_;clear C2;rintro e w2 ⟨rfl,hb2⟩;clear a11 b11;obtain ⟨ka,kb,hw2⟩:=HK.out w2 (HB1.out.trans (hb2.mono HB1.out.size));have a9:w2.cell? ⟨ra,9,none⟩=some (.slice aP n1 cP):=by rw [ka];rfl
 have b9:w2.cell? ⟨ra+1,9,none⟩=some (.slice bP n1 dP):=by rw [kb];rfl
 have a12:w2.cell? ⟨ra,12,none⟩=some (.slice aG n4 cG):=by rw [ka];rfl
 have b12:w2.cell? ⟨ra+1,12,none⟩=some (.slice bG n4 dG):=by rw [kb];rfl
 have H2:Hid (Below w.heap.size w w2):=hw2;have HP:Hid (RowC w2 aP cP pc/\RowC w2 bP dP pc/\RowI w2 aG cG pg/\RowI w2 bG dG pg):=⟨HR.out.1.1.below hw2,HR.out.1.2.1.below hw2,HR.out.1.2.2.1.below hw2,HR.out.1.2.2.2.below hw2⟩;clear ka kb hw2 hb2 HB1 HR;go_wp2_with fail
 go_loopg [5] n1 (fun gh i wr=>∃k:Nat,k<=n1/\gh=n1-k/\i=.int .i64 (k:Int)/\Hid (Below w2.heap.size w2 wr))
 case atStart=>exact ⟨0,jU _,rfl,rfl,Below.refl _ _⟩
 case round=>
  obtain ⟨k,hk,hgk,rfl,HI⟩:=hrel;have HGK:Hid (gk=n1-k):=hgk;clear hgk;have x9:wr.cell? ⟨ra,9,none⟩=some (.slice aP n1 cP):=(HI.out.cell (p:=⟨ra,9,none⟩) (block_lt_of_cell a9)).trans a9;have y9:wr.cell? ⟨ra+1,9,none⟩=some (.slice bP n1 dP):=(HI.out.cell (p:=⟨ra+1,9,none⟩) (block_lt_of_cell b9)).trans b9;by_cases hlt:k<n1
  ·have hpl:0<pc.length:=by have:=HL.out.1;omega
   obtain ⟨p1,o1,rfl⟩:=HP.out.1.some' hpl;obtain ⟨p2,o2,rfl⟩:=HP.out.2.1.some' hpl;obtain ⟨u0,u1,u2,u3⟩:=(HP.out.1.below HI.out).cells k (by have:=HL.out.1;omega);obtain ⟨v0,v1,v2,v3⟩:=(HP.out.2.1.below HI.out).cells k (by have:=HL.out.1;omega);have l1:=HP.out.1.2.1;have l2:=HP.out.2.1.2.1;rw [HL.out.1] at l1 l2;have l3:=HP.out.1.2.2.1;have l4:=HP.out.2.1.2.2.1;unfold maxLen at l3 l4;obtain ⟨q,hq⟩:∃q,pc.getD k c40=q:=⟨_,rfl⟩;rw [hq] at u0 u1 u2 u3 v0 v1 v2 v3;clear hq;go_wp2_with fail
   go_region
   go_wp2;go_roundg (n1-(k+1))
   case rel=>exact ⟨k+1,by omega,rfl,by go_num,HI.out.drew⟩
   case measure=>have:=HGK.out;omega
  ·obtain rfl:k=n1:=by omega
   have HI2:Hid (Below w2.heap.size w2 wr):=HI.out;clear HI HGK hk hlt;go_wp2_with fail
   go_loopg [6] n4 (fun gh i wx=>∃y:Nat,y<=n4/\gh=n4-y/\i=.int .i64 (y:Int)/\Hid (Below w2.heap.size w2 wx))
   case atStart=>exact ⟨0,jU _,rfl,rfl,HI2.out⟩
   case round=>
    clear HI2 x9 y9;obtain ⟨y,hy,hgk,rfl,HI⟩:=hrel;have HGK:Hid (gk=n4-y):=hgk;clear hgk;have x12:wr.cell? ⟨ra,12,none⟩=some (.slice aG n4 cG):=(HI.out.cell (p:=⟨ra,12,none⟩) (block_lt_of_cell a12)).trans a12;have y12:wr.cell? ⟨ra+1,12,none⟩=some (.slice bG n4 dG):=(HI.out.cell (p:=⟨ra+1,12,none⟩) (block_lt_of_cell b12)).trans b12;by_cases hlt:y<n4
    ·have l1:=HP.out.2.2.1.1;have l2:=HP.out.2.2.2.1;rw [HL.out.2] at l1 l2;have l3:=HP.out.2.2.1.2.1;have l4:=HP.out.2.2.2.2.1;unfold maxLen at l3 l4
     obtain ⟨p1,o1,rfl,u0⟩:∃p o,aG=some ⟨p,o,none⟩/\wr.cell? ⟨p,o+y,none⟩=some (.int .i64 (pg.getD y 0)):=by
      rcases (HP.out.2.2.1.below HI.out).2.2 with h|⟨p,o,e,h⟩
      ·have:=HL.out.2;rw [h] at this;simp at this;omega
      ·exact ⟨p,o,e,h y (by have:=HL.out.2;omega)⟩
     obtain ⟨p2,o2,rfl,v0⟩:∃p o,bG=some ⟨p,o,none⟩/\wr.cell? ⟨p,o+y,none⟩=some (.int .i64 (pg.getD y 0)):=by
      rcases (HP.out.2.2.2.below HI.out).2.2 with h|⟨p,o,e,h⟩
      ·have:=HL.out.2;rw [h] at this;simp at this;omega
      ·exact ⟨p,o,e,h y (by have:=HL.out.2;omega)⟩
     obtain ⟨q,hq⟩:∃q,pg.getD y 0=q:=⟨_,rfl⟩;rw [hq] at u0 v0;clear hq;go_wp2_with fail
     go_region
     go_wp2;go_roundg (n4-(y+1))
     case rel=>exact ⟨y+1,by omega,rfl,by go_num,HI.out.drew⟩
     case measure=>have:=HGK.out;omega
    ·obtain rfl:y=n4:=by omega
     have HE:Hid (Below w.heap.size w wr):=H2.out.trans (HI.out.mono H2.out.size);clear HI HGK hy hlt HP;go_wp2;go_ret
     exact ⟨rfl,HE.out⟩
set_option maxRecDepth 20000 in
theorem lsame_yes {w:World} {F G:Nat->Prop} {B:Nat} {v v':Value} {R:Rp} (h1:RepP F G w v R) (h2:RepIs B w v' R):
  Calls Tryz.prog 68 #[v,v'] w fun e w'=>e=.returned (.bool true)/\Below w.heap.size w w':=by
 obtain ⟨aP,cP,aT,cT,aS,cS,aG,cG,rfl,p1,p2,p3,p4,-⟩:=h1;obtain ⟨bP,dP,bT,dT,bS,dS,bG,dG,rfl,q1,q2,q3,q4,-⟩:=h2;obtain ⟨n1,e1⟩:∃n1,R.pc.length=n1:=⟨_,rfl⟩;obtain ⟨n2,e2⟩:∃n2,R.tx.length=n2:=⟨_,rfl⟩;obtain ⟨n3,e3⟩:∃n3,R.st.length=n3:=⟨_,rfl⟩;obtain ⟨n4,e4⟩:∃n4,R.pg.length=n4:=⟨_,rfl⟩;rw [e1,e2,e3,e4];have C:=fun (w1:World) (hb:Below w.heap.size w w1)=>rsame_yes (w:=w1) (S:=R.s) (pl:=R.pl) (h:=0) (h':=R.h) (p1.below hb) (q1.below hb) (p2.below hb) (q2.below hb) (p3.below hb) (q3.below hb) (p4.below hb) (q4.below hb) e1 e2 e3 e4
 have HC:Hid _:=C;have HB:Hid (Below w.heap.size w ((w.alloc (.cells (rpP R.s R.pl (.slice aP n1 cP) (.slice aT n2 cT) (.slice aS n3 cS) (.slice aG n4 cG)) 85)).alloc (.cells (rpC R.s R.pl (.slice bP n1 dP) (.slice bT n2 dT) (.slice bS n3 dS) (.slice bG n4 dG) R.h) 95))):=((Below.refl _ w).alloc (jB _) _).alloc (by simp) _;have C0:=C _ HB.out;unfold rpP rpC at*;clear C p1 p2 p3 p4 q1 q2 q3 q4 e1 e2 e3 e4 HC;go_enter Tryz.func68,Tryz.ntmps68
 go_wp2_with fail
 refine C0.mono ?_;rintro e w2 ⟨rfl,hb2⟩;have HE:Hid (Below w.heap.size w w2):=HB.out.trans (hb2.mono HB.out.size);clear hb2 HB C0;go_wp2;go_ret
 exact ⟨rfl,HE.out⟩
end Go.Proofs.YtaijfhadecennaaGreat.Oct
