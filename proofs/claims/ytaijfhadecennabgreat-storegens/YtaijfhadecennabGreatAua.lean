/- Part of a proof. -/
import Derived.Test.YtaijfhadecennabGreatVc
import Derived.Test.YtaijfhadecennabGreatGn
import Derived.Test.YtaijfhadecennabGreatBb
import Derived.Maps.Own
import Derived.Maps.OwnOps
import Derived.Maps.OwnSet
import Derived.Test.YtaijfhadecennabGreatKe
import Derived.Test.YtaijfhadecennabGreatZo
import Derived.Deep.Slices
import Derived.ChangeSame
import Derived.ProofKit
import Derived.Test.YtaijfhadecennabGreatR
import Derived.Test.YtaijfhadecennabGreatQi
import Derived.Test.YtaijfhadecennabGreatIq
open Go.Proofs.Tryz
namespace Go.Proofs.YtaijfhadecennabGreat.Oct
open Go.RowKit
open Go.Maps (Keyed int_keyed keyOf_int_mk)
def OwnL (base:Nat) (w:World) (v:Value) (R:List Bool):Prop:=w.ownsRow base 4 1 v R.length (R.map Value.bool)
theorem ZM {base g n cap:Nat} {w:World} {R:List Bool} (h:OwnL base w (.slice (some ⟨g,0,none⟩) n cap) R) (j:Nat) (hj:j<R.length):
  n=R.length/\w.cell? ⟨g,j,none⟩=some (.bool (R.getD j false))/\w.frozen? ⟨g,j,none⟩=false/\∀y:Bool,OwnL base (w.setCell ⟨g,j,none⟩ (.bool y)) (.slice (some ⟨g,0,none⟩) n cap) (R.set j y):=by
 have h':=h;obtain ⟨_,⟨e,_⟩|⟨g',cap',cur,e,hg,hc,hn,hm,hs,ht⟩⟩:=h
 ·simp at e
 ·simp only [Value.slice.injEq,jP,Addr.mk.injEq,and_true] at e;obtain ⟨rfl,rfl,rfl⟩:=e;refine ⟨rfl,?_,World.ownsRow.frozenAt h' j,fun y=>?_⟩
  ·rw [World.ownsRow.cellAt h' j (by omega)];simp [hj]
  ·have:=World.ownsRow.stored h' j (.bool y);unfold OwnL;rw [qC,List.map_set];exact this.1
theorem OwnL.cap {base g n cap:Nat} {w:World} {R:List Bool} (h:OwnL base w (.slice (some ⟨g,0,none⟩) n cap) R):n=R.length/\n<=cap/\cap<=maxLen/\g<w.heap.size/\base<=g:=by
 have hl:=World.ownsRow.lt h g rfl;obtain ⟨_,⟨e,_⟩|⟨g',cap',cur,e,hg,hc,hn,hm,hs,ht⟩⟩:=h
 ·simp at e
 ·simp only [Value.slice.injEq,jP,Addr.mk.injEq,and_true] at e;obtain ⟨rfl,rfl,rfl⟩:=e;exact ⟨rfl,hn,hm,hl.2,hl.1⟩
theorem OwnL.kept {base g n cap:Nat} {w w':World} {R:List Bool} (h:OwnL base w (.slice (some ⟨g,0,none⟩) n cap) R) (k:w'.heap[g]?=w.heap[g]?):OwnL base w' (.slice (some ⟨g,0,none⟩) n cap) R:=
 yN h (fun x hx=>by simp [Value.ownBlock] at hx;rw [<-hx];exact k)
def rdK (D:Dv):Nat->Dv
 |0=>D
 |k+1=>readD (rdK D k)
theorem readD_is (D:Dv):(readD D).now=D.now/\(readD D).n=D.n/\(readD D).ops<=D.ops+1/\D.ops<=(readD D).ops:=by
 unfold readD;split
 ·exact ⟨rfl,rfl,by omega,by omega⟩
 ·split
  ·exact ⟨rfl,rfl,by simp [dieD],by simp [dieD]⟩
  ·exact ⟨rfl,rfl,by simp [opD],by simp [opD]⟩
theorem QC (D:Dv):∀k,(rdK D k).now=D.now/\(rdK D k).n=D.n/\(rdK D k).ops<=D.ops+k/\D.ops<=(rdK D k).ops:=by
 intro k
 induction k with
 |zero=>exact ⟨rfl,rfl,jB _,jB _⟩
 |succ k ih=>
  have:=readD_is (rdK D k);rw [rdK];exact ⟨this.1.trans ih.1,this.2.1.trans ih.2.1,by omega,by omega⟩
theorem JN (w:World):Calls prog 146 #[.bool true] w fun e w'=>e=.returned (.tuple #[])/\w=w':=by
 go_enter func146,ntmps146
 go_wp2;go_end0
 exact ⟨rfl,rfl⟩
end Go.Proofs.YtaijfhadecennabGreat.Oct
namespace Go.Proofs.YtaijfhadecennabGreat.Oct
open Go.RowKit
def PtR (w:World) (zs:List Int) (e:Ending) (w':World):Prop:=∃g c,e=.returned (.tuple #[.slice g (ptL zs).length c,.int .i64 (ptN zs),.int .i64 (ptE zs)])/\(g=none->c=0)/\Row w' g c (ptL zs)/\Below w.heap.size w w'
structure ChC:Prop where
 need:∀(n:Int) (w:World),-9223372036854775808<=n/\n<=9223372036854775807->Calls prog 124 #[.int .i64 n] w fun e w'=>e=.returned (.int .i64 (nedI n))/\Below w.heap.size w w'
 cut:∀(a:Option Addr) (cap:Nat) (zs:List Int) (pa:Option Addr) (pcap:Nat) (pg:List Int) (w:World),Row w a cap zs->(a=none->cap=0)->RowI w pa pcap pg->(∀z∈pg,-9223372036854775808<=z/\z<=9223372036854775807)->zs.length<=1000000->pg.length<=1000000->Calls prog 126 #[.slice a zs.length cap,.slice pa pg.length pcap] w (CtR w zs pg)
 part:∀(a:Option Addr) (cap:Nat) (zs:List Int) (w:World),Row w a cap zs->(a=none->cap=0)->zs.length<=1000000->Calls prog 73 #[.slice a zs.length cap] w (PtR w zs)
theorem ctL_at {zs pg:List Int} {i:Nat} (h:i<pg.length):(ctL zs pg).getD i []=sealL (cpg zs pg i):=by
 unfold ctL;rw [jA,jC (by simpa using h)];simp
end Go.Proofs.YtaijfhadecennabGreat.Oct
namespace Go.Proofs.YtaijfhadecennabGreat.Oct
open Go.RowKit
theorem appI {ops:Array Oper} {rest:List Oper} {o:Oper} {a:Act} {Q:Exit->Act->World->Prop} (wr:World) (hgd:o.guard=none) (s x:Operand)
  (ho:o.op=.call {callee:=.builtin .append,args:= #[s,x],argTypes:= #[38,38]})
  (base:Nat) (v:Value) (xs:List Int) (z:Int) (hs:a.eval s=v) (hown:OwnI base wr v xs) (hx:a.eval x=.slice (some ⟨wr.heap.size,0,none⟩) 1 1) (hsz:xs.length<=1000000) (hbase:base<=wr.heap.size)
  (h:∀v' w',OwnI base w' v' (xs++[z])->Below base wr w'->wpList prog ops Q rest (a.put o.dst v') w'):wpList prog ops Q (o::rest) a (wr.alloc (.cells #[.int .i64 z] 3)):=by
 obtain ⟨i0,hi,hz0,hz1,hz2⟩:=info_parts info3;refine wpList_append_own _ hgd s x 38 ho base 3 i0 (.int .i64 0) 1 8 underlying38 hi hz0 hz1 hz2 rfl (by decide) v xs.length (xs.map (Value.int .i64)) hs (World.ownsRow.alloc hown _) ⟨wr.heap.size,0,none⟩ 1 1 [.int .i64 z] hx rfl (World.news_of_block (heap_alloc_new wr _)) (by simp [Value.oneCell']) (by unfold maxLen;omega) (by omega) (by simp;omega) ?_;intro v' w1 hown' hgrow _;obtain ⟨h1,h2⟩:=KA (c:=z) (o:=.cells #[.int .i64 z] 3) rfl hbase hown (Below.refl base wr) hown' hgrow;exact h v' w1 h1 h2
theorem OwnI.row2 {base:Nat} {w:World} {v:Value} {zs:List Int} (h:OwnI base w v zs):∃a cap,v=.slice a zs.length cap/\RowI w a cap zs:=h.row
end Go.Proofs.YtaijfhadecennabGreat.Oct
namespace Go.Proofs.YtaijfhadecennabGreat.Oct
open Go.RowKit
theorem UR {D:Dv} (h:Well D):∀k,Well (rdK D k):=by
 intro k
 induction k with
 |zero=>exact h
 |succ k ih=>exact ih.read
structure W0 (w:World) (p d:Nat) (F FD:Nat->Prop) (D0:Dv) (L:List Int) (gr cr:Nat) (vM:Value) (aC:Option Addr) (cC:Nat) (R:List Bool) (cs:List Int):Prop where
 lt:∀k,F k->k<w.heap.size
 dev:Dev w d FD (rdK D0 (cnt R))
 well:Well D0
 now:D0.now=L
 rn:R.length=D0.n
 ops:D0.ops<=1000000000000
 cells:w.heap[p]?=some (.cells #[.pointer (some ⟨d,0,none⟩),.slice (some ⟨gr,0,none⟩) R.length cr,.slice none 0 0,.slice aC cs.length cC,vM] 215 (0,0))
 rch:OwnL 0 w (.slice (some ⟨gr,0,none⟩) R.length cr) R
 ch:OwnI 0 w (.slice aC cs.length cC) cs
 fD:∀k,FD k->F k
 fp:F p
 fg:F gr
 fC:∀k,obl aC k->F k
 pD:¬FD p
 gD:¬FD gr
 CD:∀k,obl aC k->¬FD k
 pg:¬p=gr
 pC:¬obl aC p
 gC:¬obl aC gr
def W0A (w:World) (p d:Nat) (F FD:Nat->Prop) (D0:Dv) (L:List Int) (vM:Value) (R:List Bool) (cs:List Int):Prop:=∃gr cr aC cC,W0 w p d F FD D0 L gr cr vM aC cC R cs
section
variable {w w':World} {p d gr cr cC:Nat} {F FD:Nat->Prop} {D0:Dv} {L:List Int} {vM:Value} {aC:Option Addr} {R:List Bool} {cs:List Int}
theorem OwnI.keepO {w w':World} {B:Nat} {a:Option Addr} {n c:Nat} {zs:List Int} (h:OwnI B w (.slice a n c) zs) (k:∀g,obl a g->w'.heap[g]?=w.heap[g]?):OwnI B w' (.slice a n c) zs:=
 yN h (fun g hg=>k g (yX hg))
theorem W0.at (h:W0 w p d F FD D0 L gr cr vM aC cC R cs):w.cell? ⟨p,0,none⟩=some (.pointer (some ⟨d,0,none⟩))/\w.cell? ⟨p,1,none⟩=some (.slice (some ⟨gr,0,none⟩) R.length cr)/\w.cell? ⟨p,2,none⟩=some (.slice none 0 0)/\w.cell? ⟨p,3,none⟩=some (.slice aC cs.length cC)/\∀i,w.frozen? ⟨p,i,none⟩=false:=by
 refine ⟨?_,?_,?_,?_,fun i=>?_⟩
 iterate 4 (rw [cell_of_row w p _ _ _ (0,0) h.cells];rfl)
 unfold World.frozen?;rw [h.cells];simp
theorem W0.keep (h:W0 w p d F FD D0 L gr cr vM aC cC R cs) (hs:w.heap.size<=w'.heap.size) (k:∀g,F g->w'.heap[g]?=w.heap[g]?):W0 w' p d F FD D0 L gr cr vM aC cC R cs:=
 {h with
  lt:=fun k hk=>jV (h.lt k hk) hs
  dev:=h.dev.keep hs (fun g hg=>k g (h.fD g hg))
  cells:=(k p h.fp).trans h.cells
  rch:=h.rch.kept (k gr h.fg)
  ch:=h.ch.keepO (fun g hg=>k g (h.fC g hg))}
theorem W0.below (h:W0 w p d F FD D0 L gr cr vM aC cC R cs) (hb:Below w.heap.size w w'):W0 w' p d F FD D0 L gr cr vM aC cC R cs:=
 h.keep hb.size (fun g hg=>hb.block g (h.lt g hg))
theorem W0A.keep (h:W0A w p d F FD D0 L vM R cs) (hs:w.heap.size<=w'.heap.size) (k:∀g,F g->w'.heap[g]?=w.heap[g]?):W0A w' p d F FD D0 L vM R cs:=by
 obtain ⟨gr,cr,aC,cC,h⟩:=h;exact ⟨gr,cr,aC,cC,h.keep hs k⟩
theorem W0A.below (h:W0A w p d F FD D0 L vM R cs) (hb:Below w.heap.size w w'):W0A w' p d F FD D0 L vM R cs:=by
 obtain ⟨gr,cr,aC,cC,h⟩:=h;exact ⟨gr,cr,aC,cC,h.below hb⟩
theorem W0A.lt (h:W0A w p d F FD D0 L vM R cs):∀k,F k->k<w.heap.size:=by
 obtain ⟨gr,cr,aC,cC,h⟩:=h;exact h.lt
theorem W0A.fp (h:W0A w p d F FD D0 L vM R cs):F p:=by
 obtain ⟨gr,cr,aC,cC,h⟩:=h;exact h.fp
theorem W0A.rn (h:W0A w p d F FD D0 L vM R cs):R.length=D0.n/\R.length<=4096/\8<=R.length/\L.length=256*R.length/\Bys L:=by
 obtain ⟨gr,cr,aC,cC,h⟩:=h;have h1:=h.dev.1.n4;have h2:=h.dev.1.n8;have h3:=h.dev.1.now;have h4:=h.dev.1.bnow;have h5:=QC D0 (cnt R);rw [h5.2.1] at h1 h2 h3;rw [h5.1,h.now] at h3 h4;have:=h.rn;exact ⟨h.rn,by omega,by omega,by omega,h4⟩
theorem W0.reached (h:W0 w p d F FD D0 L gr cr vM aC cC R cs) {n:Nat} (hn:n<R.length) (hr:R.getD n false=false) {w1 w2:World} (h1:w1=w.setCell ⟨gr,n,none⟩ (.bool true)) (hd:Dev w2 d FD (readD (rdK D0 (cnt R)))) (hc:Ch w1.heap.size FD w1 w2):
  W0 w2 p d F FD D0 L gr cr vM aC cC (R.set n true) cs/\Ch w.heap.size F w w2:=by
 have hset:Ch w.heap.size F w w1:=by rw [h1];exact Ch.set h.fg n _
 have hs1:w1.heap.size=w.heap.size:=by rw [h1,yL]
 rw [hs1] at hc;have hch:Ch w.heap.size F w w2:=hset.trans (hc.mono (jB _) (fun k _ e=>h.fD k e));have kp:∀g,¬g=gr->¬FD g->g<w.heap.size->w2.heap[g]?=w.heap[g]?:=fun g h2 h3 h4=>(hc.block g h4 h3).trans (by rw [h1];exact Below.heap_setCell w ⟨gr,n,none⟩ _ g h2)
 have hcs:=vU hn hr;have hl:(R.set n true).length=R.length:=qC;obtain ⟨-,-,-,hst⟩:=ZM h.rch n hn;refine ⟨{h with lt:=fun k hk=>jV (h.lt k hk) hch.size,dev:=by rw [hcs];exact hd,rn:=by rw [hl];exact h.rn,cells:=?_,rch:=?_,ch:=?_},hch⟩
 ·rw [kp p h.pg h.pD (h.lt p h.fp),hl];exact h.cells
 ·rw [hl];have h2:OwnL 0 w1 (.slice (some ⟨gr,0,none⟩) R.length cr) (R.set n true):=by rw [h1];exact hst true
  exact h2.kept (hc.block gr (h.lt gr h.fg) h.gD)
 ·exact h.ch.keepO (fun g hg=>kp g (fun e=>h.gC (e▸hg)) (h.CD g hg) (h.lt g (h.fC g hg)))
set_option maxHeartbeats 2000000 in
set_option maxRecDepth 20000 in
theorem reach0 (h:W0A w p d F FD D0 L vM R cs) (n:Int) (hy:rcB R n=true):
  Calls prog 195 #[.pointer (some ⟨p,0,none⟩),.int .i64 n] w fun e w'=>∃g c,e=.returned (.slice (some ⟨g,0,none⟩) 256 c)/\Own w.heap.size w' (.slice (some ⟨g,0,none⟩) 256 c) (pageOf L n.toNat)/\W0A w' p d F FD D0 L vM (R.set n.toNat true) cs/\Ch w.heap.size F w w':=by
 have hrn:=h.rn;obtain ⟨gr,cr,aC,cC,h⟩:=h;obtain ⟨c0,c1,c2,c3,fz⟩:=h.at;obtain ⟨-,k1,k2,-,-⟩:=h.rch.cap;unfold maxLen at k2;have HX:Hid (W0 w p d F FD D0 L gr cr vM aC cC R cs):=h;obtain ⟨hn0,hn1,hyr⟩:=XA hy;obtain ⟨nn,rfl⟩:=qB hn0;rw [jS] at hyr;obtain ⟨N,hN⟩:∃N,R.length=N:=⟨_,rfl⟩;have HN:Hid (R.length=N):=hN;rw [hN] at c1 k1 hn1;have h4096:N<=4096:=by omega
 have hlt:nn<N:=by omega
 obtain ⟨-,b1,b2,-⟩:=ZM h.rch nn (by omega);rw [hyr] at b1;have hset:Ch w.heap.size (fun k=>k=gr) w (w.setCell ⟨gr,nn,none⟩ (.bool true)):=(Ch.refl _ (fun k=>k=gr) w).setCell (p:=⟨gr,nn,none⟩) (.inr rfl) _;have hdv:Dev (w.setCell ⟨gr,nn,none⟩ (.bool true)) d FD (rdK D0 (cnt R)):=h.dev.ch hset (fun k hk e=>h.gD (e▸hk));have hop:=(QC D0 (cnt R)).2.2.1;have hcl:=XU R;have hops:=h.ops;have hrd:=UP hdv (by omega) nn (by rw [(QC D0 (cnt R)).2.1,<-h.rn];omega);have e0:(w.setCell ⟨gr,nn,none⟩ (.bool true)).cell? ⟨p,0,none⟩=some (.pointer (some ⟨d,0,none⟩)):=(hset.cell (p:=⟨p,0,none⟩) (h.lt p h.fp) h.pg).trans c0;have HYY:Hid (R.getD nn false=false):=hyr;have ht:tellsD (rdK D0 (cnt R))=true:=(UR h.well _).tells;have hdm1:=JN w;unfold ReadEnd at hrd;rw [ht] at hrd;clear h fz hn0 hn1 hrn hN hset hdv hop hcl hops hy hyr ht;obtain ⟨w1,hw1⟩:∃w1,w.setCell ⟨gr,nn,none⟩ (.bool true)=w1:=⟨_,rfl⟩;rw [hw1] at hrd e0;go_enter func195,ntmps195
 go_wp2_with (go_at_call 146;refine hdm1.mono ?_;rintro e w' ⟨rfl,rfl⟩)
 refine hrd.mono ?_;clear hrd;rintro e w2 ⟨he,hd2,hc2⟩;rw [if_pos trivial] at he;obtain ⟨g,c,rfl,ho⟩:=he;obtain ⟨f1,f2⟩:=HX.out.reached (by rw [HN.out];exact hlt) HYY.out hw1.symm hd2 hc2;have hs1:w1.heap.size=w.heap.size:=by rw [<-hw1,yL]
 rw [hs1] at ho
 have HE:Hid (∃g' c',Ending.returned (.slice (some ⟨g,0,none⟩) 256 c)=.returned (.slice (some ⟨g',0,none⟩) 256 c')/\Own w.heap.size w2 (.slice (some ⟨g',0,none⟩) 256 c') (pageOf L nn)/\W0A w2 p d F FD D0 L vM (R.set nn true) cs/\Ch w.heap.size F w w2):=by
  refine ⟨g,c,rfl,?_,⟨_,_,_,_,f1⟩,f2⟩;have e1:=(QC D0 (cnt R)).1;rw [e1,HX.out.now] at ho;exact ho
 have hdm2:=JN w2;clear ho f1 f2 hd2 hc2 hw1 hs1;go_wp2_with (go_at_call 146;refine hdm2.mono ?_;rintro e w' ⟨rfl,rfl⟩)
 go_ret
 exact HE.out
end
end Go.Proofs.YtaijfhadecennabGreat.Oct
