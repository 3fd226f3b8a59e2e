/- Part of a proof. -/
import Derived.Test.YtjllhcifmfhkmaaGreatVc
import Derived.Test.YtjllhcifmfhkmaaGreatGk
import Derived.Test.YtjllhcifmfhkmaaGreatBb
import Derived.Maps.Own
import Derived.Maps.OwnOps
import Derived.Maps.OwnSet
import Derived.Test.YtjllhcifmfhkmaaGreatBe
import Derived.Test.YtjllhcifmfhkmaaGreatYm
import Derived.Deep.LoopGhost
import Derived.Laws.Tables
namespace Go.Proofs.YtjllhcifmfhkmaaGreat.Oct
open Go.RowKit
open Go.Maps (Keyed int_keyed keyOf_int_mk)
def OwnL (base:Nat) (w:World) (v:Value) (R:List Bool):Prop:=w.ownsRow base 4 1 v R.length (R.map Value.bool)
theorem ownL_at {base g n cap:Nat} {w:World} {R:List Bool} (h:OwnL base w (.slice (some ⟨g,0,none⟩) n cap) R) (j:Nat) (hj:j<R.length):
  n=R.length∧w.cell? ⟨g,j,none⟩=some (.bool (R.getD j false))∧w.frozen? ⟨g,j,none⟩=false∧∀y:Bool,OwnL base (w.setCell ⟨g,j,none⟩ (.bool y)) (.slice (some ⟨g,0,none⟩) n cap) (R.set j y):=by
 have h':=h;obtain ⟨_,⟨e,_⟩|⟨g',cap',cur,e,hg,hc,hn,hm,hs,ht⟩⟩:=h
 ·simp at e
 ·simp only [Value.slice.injEq,Option.some.injEq,Addr.mk.injEq,and_true] at e;obtain ⟨rfl,rfl,rfl⟩:=e;refine ⟨rfl,?_,World.ownsRow.frozenAt h' j,fun y=>?_⟩
  ·rw [World.ownsRow.cellAt h' j (by omega)];simp [hj]
  ·have:=World.ownsRow.stored h' j (.bool y);unfold OwnL;rw [List.length_set,List.map_set];exact this.1
theorem OwnL.cap {base g n cap:Nat} {w:World} {R:List Bool} (h:OwnL base w (.slice (some ⟨g,0,none⟩) n cap) R):n=R.length∧n≤cap∧cap≤maxLen∧g<w.heap.size∧base≤g:=by
 have hl:=World.ownsRow.lt h g rfl;obtain ⟨_,⟨e,_⟩|⟨g',cap',cur,e,hg,hc,hn,hm,hs,ht⟩⟩:=h
 ·simp at e
 ·simp only [Value.slice.injEq,Option.some.injEq,Addr.mk.injEq,and_true] at e;obtain ⟨rfl,rfl,rfl⟩:=e;exact ⟨rfl,hn,hm,hl.2,hl.1⟩
theorem OwnL.kept {base g n cap:Nat} {w w':World} {R:List Bool} (h:OwnL base w (.slice (some ⟨g,0,none⟩) n cap) R) (k:w'.heap[g]?=w.heap[g]?):OwnL base w' (.slice (some ⟨g,0,none⟩) n cap) R:=
 owns_keep h (fun x hx=>by simp [Value.ownBlock] at hx;rw [←hx];exact k)
def heldE (v:Value):Option (DataW Value × List MemPlace):=some (.held v,[])
def findV (ts:List (Nat × Value)) (k:Int):Option Value:=(ts.find? (fun x=>decide ((x.1:Int)=k))).map (·.2)
def lkV (o:Option Value):DataW Value:=match o with|none=>.nil|some v=>.held v
def HeldV (w:World) (m:Nat) (ts:List (Nat × Value)):Prop:=∃D:DataW Value,w.ownsMap Tryz.prog 3 heldE m ts.length D∧∀k:Int,D.atKey (.int .i64 k) .nil=lkV (findV ts k)
theorem keyI:Keyed Tryz.prog 3:=int_keyed Tryz.underlying3
theorem zeroSl (w:World):(zeroValue 30).run Tryz.prog w=.ok (.slice none 0 0) w:=by kernel_rfl
theorem HeldV.keep {w w':World} {m:Nat} {ts:List (Nat × Value)} (h:HeldV w m ts) (k:w'.heap[m]?=w.heap[m]?):HeldV w' m ts:=by
 obtain ⟨D,⟨es,clock,hb,rest⟩,h3⟩:=h;exact ⟨D,⟨es,clock,k.trans hb,rest⟩,h3⟩
theorem HeldV.lt {w:World} {m:Nat} {ts:List (Nat × Value)} (h:HeldV w m ts):m<w.heap.size:=by
 obtain ⟨D,h,_⟩:=h;exact h.lt
theorem HeldV.look {w:World} {m:Nat} {ts:List (Nat × Value)} (h:HeldV w m ts) (k:Int) (hk:(Lit.int .i64 k).wf=true):
  (Instr.lookup 119 (.map (some m)) (.int .i64 k) true).run Tryz.prog w=.ok (.tuple #[(findV ts k).getD (.slice none 0 0),.bool (findV ts k).isSome]) w:=by
 obtain ⟨D,⟨es,clock,hb,F,hs,rfl⟩,h3⟩:=h;have h3:=h3 k;rcases Maps.fit_look true keyI Tryz.underlying119 (zeroSl w) hb F (keyOf_int_mk Tryz.underlying3 hk) with ⟨hrun,_,hat⟩|⟨e0,y,_,_,hrun,hRv,hat,_⟩
 ·rw [hat .nil] at h3;cases hf:findV ts k with
  |none=>exact hrun
  |some v=>rw [hf] at h3;cases h3
 ·rw [hat .nil] at h3;unfold heldE at hRv;simp only [Option.some.injEq] at hRv;subst hRv;cases hf:findV ts k with
  |none=>rw [hf] at h3;cases h3
  |some v=>
   rw [hf] at h3;simp only [lkV,DataW.held.injEq] at h3;subst h3;exact hrun
theorem findV_app (ts:List (Nat × Value)) (x:Nat × Value) (hx:findV ts x.1=none) (k:Int):findV (ts++[x]) k=if k=x.1 then some x.2 else findV ts k:=by
 unfold findV at*;rw [List.find?_append];by_cases hk:k=x.1
 ·subst hk;simp at hx;rw [List.find?_eq_none.2 (by simpa using hx)];simp
 ·have hk':¬(x.1:Int)=k:=fun e=>hk e.symm
  simp only [if_neg hk];cases ts.find? (fun x=>decide ((x.1:Int)=k)) with
  |none=>simp [hk']
  |some y=>simp
theorem HeldV.put {w:World} {m:Nat} {ts:List (Nat × Value)} (h:HeldV w m ts) (pg:Nat) (hp:(Lit.int .i64 (pg:Int)).wf=true) (v:Value) (hl:ts.length≤1000000) (hx:findV ts pg=none):
  ∃w',(Instr.mapUpdate 119 (.map (some m)) (.int .i64 pg) v).run Tryz.prog w=.ok () w'∧HeldV w' m (ts++[(pg,v)])∧w.grownBy w' (some m):=by
 obtain ⟨D,h2,h3⟩:=h;obtain ⟨w',hrun,ho,ht⟩:=h2.update keyI Tryz.underlying119 (by unfold maxLen;omega) (keyOf_int_mk Tryz.underlying3 hp) (val:=v) (d:=.held v) (ps:=[]) rfl;refine ⟨w',hrun,⟨D.put (.int .i64 pg) (.held v),by simpa using ho,fun k=>?_⟩,ht⟩;rw [findV_app _ (pg,v) hx];by_cases hk:k=pg
 ·subst hk;rw [Maps.atKey_put_same (k:=.int .i64 (pg:Int)) h2.isMap trivial];simp [lkV]
 ·rw [Maps.atKey_put_other (fun e=>hk (by simpa using e)),h3];simp [hk]
theorem heldV_new (w:World):HeldV (w.alloc (.map #[] 0)) w.heap.size []:=⟨.map [],World.ownsMap_made w Tryz.prog 3 heldE,fun k=>by simp [findV,lkV,DataW.atKey]⟩
def rdK (D:Dv):Nat→Dv
 |0=>D
 |k+1=>readD (rdK D k)
theorem readD_is (D:Dv):(readD D).now=D.now∧(readD D).n=D.n∧(readD D).ops≤D.ops+1∧D.ops≤(readD D).ops:=by
 unfold readD;split
 ·exact ⟨rfl,rfl,by omega,by omega⟩
 ·split
  ·exact ⟨rfl,rfl,by simp [dieD],by simp [dieD]⟩
  ·exact ⟨rfl,rfl,by simp [opD],by simp [opD]⟩
theorem rdK_is (D:Dv):∀k,(rdK D k).now=D.now∧(rdK D k).n=D.n∧(rdK D k).ops≤D.ops+k∧D.ops≤(rdK D k).ops:=by
 intro k
 induction k with
 |zero=>exact ⟨rfl,rfl,Nat.le_refl _,Nat.le_refl _⟩
 |succ k ih=>
  have:=readD_is (rdK D k);rw [rdK];exact ⟨this.1.trans ih.1,this.2.1.trans ih.2.1,by omega,by omega⟩
def thrA (k:Int):Ending:=.panicked [{v:=.iface 24 (.int .i64 k),recovered:=false}]
theorem demand_yes (w:World):Calls Tryz.prog 54 #[.bool true] w fun e w'=>e=.returned (.tuple #[])∧w=w':=by
 go_enter Tryz.func54,Tryz.ntmps54
 go_wp2;go_end0
 exact ⟨rfl,rfl⟩
theorem demand_no (w:World):Calls Tryz.prog 54 #[.bool false] w fun e w'=>e=thrA 8∧w=w':=by
 go_enter Tryz.func54,Tryz.ntmps54
 go_wp2;exact ⟨rfl,rfl,rfl⟩
end Go.Proofs.YtjllhcifmfhkmaaGreat.Oct
namespace Go.Proofs.YtjllhcifmfhkmaaGreat.Oct
open Go.RowKit
def TxRow (w:World) (F:Nat→Prop) (L:List Int) (x:Nat × Value):Prop:=∃a c,x.2=.slice a (teL (pageOf L x.1)).length c∧Row w a c (teL (pageOf L x.1))∧∀k,obl a k→¬F k∧k<w.heap.size
structure PW (w:World) (p d:Nat) (F FD:Nat→Prop) (D0:Dv) (L:List Int) (gr cr m:Nat) (aP:Option Addr) (cP:Nat) (R:List Bool) (pcs:List C4) (ts:List (Nat × Value)):Prop where
 lt:∀k,F k→k<w.heap.size
 dev:Dev w d FD (rdK D0 (cnt R))
 told:∀j,j<cnt R→tellsD (rdK D0 j)=true
 now:D0.now=L
 rn:R.length=D0.n
 ops:D0.ops≤1000000000000
 cells:w.heap[p]?=some (.cells #[.pointer (some ⟨d,0,none⟩),.slice (some ⟨gr,0,none⟩) R.length cr,.slice aP pcs.length cP,.map (some m)] 121 (0,0))
 rch:OwnL 0 w (.slice (some ⟨gr,0,none⟩) R.length cr) R
 pc:OwnC 72 0 w (.slice aP pcs.length cP) pcs
 tx:HeldV w m ts
 row:∀x∈ts,TxRow w F L x
 fD:∀k,FD k→F k
 fp:F p
 fg:F gr
 fm:F m
 fP:∀k,obl aP k→F k
 pD:¬FD p
 gD:¬FD gr
 mD:¬FD m
 PD:∀k,obl aP k→¬FD k
 pg:¬p=gr
 pm:¬p=m
 gm:¬gr=m
 pP:¬obl aP p
 gP:¬obl aP gr
 mP:¬obl aP m
def PWA (w:World) (p d:Nat) (F:Nat→Prop) (D0:Dv) (L:List Int) (R:List Bool) (pcs:List C4) (ts:List (Nat × Value)):Prop:=∃FD gr cr m aP cP,PW w p d F FD D0 L gr cr m aP cP R pcs ts
section
variable {w w':World} {p d gr cr m cP:Nat} {F FD:Nat→Prop} {D0:Dv} {L:List Int} {aP:Option Addr} {R:List Bool} {pcs:List C4} {ts:List (Nat × Value)}
theorem TxRow.keep {x:Nat × Value} (h:TxRow w F L x) {F':Nat→Prop} (hs:w.heap.size≤w'.heap.size) (k:∀g,¬F g→g<w.heap.size→w'.heap[g]?=w.heap[g]?∧¬F' g):TxRow w' F' L x:=by
 obtain ⟨a,c,e,h1,h2⟩:=h;exact ⟨a,c,e,h1.keepO (fun g hg=>(k g (h2 g hg).1 (h2 g hg).2).1),fun g hg=>⟨(k g (h2 g hg).1 (h2 g hg).2).2,Nat.lt_of_lt_of_le (h2 g hg).2 hs⟩⟩
theorem PW.at (h:PW w p d F FD D0 L gr cr m aP cP R pcs ts):w.cell? ⟨p,0,none⟩=some (.pointer (some ⟨d,0,none⟩))∧w.cell? ⟨p,1,none⟩=some (.slice (some ⟨gr,0,none⟩) R.length cr)∧w.cell? ⟨p,2,none⟩=some (.slice aP pcs.length cP)∧w.cell? ⟨p,3,none⟩=some (.map (some m))∧∀i,w.frozen? ⟨p,i,none⟩=false:=by
 refine ⟨?_,?_,?_,?_,fun i=>?_⟩
 iterate 4 (rw [cell_of_row w p _ _ _ (0,0) h.cells];rfl)
 unfold World.frozen?;rw [h.cells];simp
theorem PW.below (h:PW w p d F FD D0 L gr cr m aP cP R pcs ts) (hb:Below w.heap.size w w'):PW w' p d F FD D0 L gr cr m aP cP R pcs ts:=
 {h with
  lt:=fun k hk=>Nat.lt_of_lt_of_le (h.lt k hk) hb.size
  dev:=h.dev.below hb
  cells:=(hb.block p (h.lt p h.fp)).trans h.cells
  rch:=h.rch.kept (hb.block gr (h.lt gr h.fg))
  pc:=h.pc.keepO (fun g hg=>hb.block g (h.lt g (h.fP g hg)))
  tx:=h.tx.keep (hb.block m (h.lt m h.fm))
  row:=fun x hx=>(h.row x hx).keep hb.size (fun g hg hl=>⟨hb.block g hl,hg⟩)}
theorem PWA.below (h:PWA w p d F D0 L R pcs ts) (hb:Below w.heap.size w w'):PWA w' p d F D0 L R pcs ts:=by
 obtain ⟨FD,gr,cr,m,aP,cP,h⟩:=h;exact ⟨FD,gr,cr,m,aP,cP,h.below hb⟩
theorem PWA.lt (h:PWA w p d F D0 L R pcs ts):∀k,F k→k<w.heap.size:=by
 obtain ⟨FD,gr,cr,m,aP,cP,h⟩:=h;exact h.lt
theorem PWA.fp (h:PWA w p d F D0 L R pcs ts):F p:=by
 obtain ⟨FD,gr,cr,m,aP,cP,h⟩:=h;exact h.fp
theorem PWA.rn (h:PWA w p d F D0 L R pcs ts):R.length=D0.n∧R.length≤4096∧8≤R.length∧L.length=256*R.length∧Bys L:=by
 obtain ⟨FD,gr,cr,m,aP,cP,h⟩:=h;have h1:=h.dev.1.n4;have h2:=h.dev.1.n8;have h3:=h.dev.1.now;have h4:=h.dev.1.bnow;have h5:=rdK_is D0 (cnt R);rw [h5.2.1] at h1 h2 h3;rw [h5.1,h.now] at h3 h4;have:=h.rn;exact ⟨h.rn,by omega,by omega,by omega,h4⟩
def AuBad (w0:World) (F:Nat→Prop) (d:Nat) (D0:Dv) (N:Nat) (e:Ending) (w':World) (no:Prop):Prop:=
 (e=thrA 8∧no∧∃k FD,k≤N∧Dev w' d FD (rdK D0 k)∧(∀j,j<k→tellsD (rdK D0 j)=true)∧Step F FD w0 w')∨
 (e=thrA 7∧∃k FD,k<N∧Dev w' d FD (rdK D0 (k+1))∧(∀j,j<k→tellsD (rdK D0 j)=true)∧tellsD (rdK D0 k)=false∧Step F FD w0 w')
theorem AuBad.mono {w0 w1:World} {F1:Nat→Prop} {N:Nat} {e:Ending} {no no':Prop} (h:AuBad w1 F1 d D0 N e w' no) (st:Step F F1 w0 w1) (hn:no→no'):AuBad w0 F d D0 N e w' no':=by
 rcases h with ⟨rfl,h1,k,FD,h2,h3,h4,h5⟩|⟨rfl,k,FD,h2,h3,h4,h5,h6⟩
 ·exact .inl ⟨rfl,hn h1,k,FD,h2,h3,h4,st.trans h5⟩
 ·exact .inr ⟨rfl,k,FD,h2,h3,h4,h5,st.trans h6⟩
theorem PW.bad (h:PW w p d F FD D0 L gr cr m aP cP R pcs ts) {no:Prop} (hn:no) {w0:World} {F0:Nat→Prop} (st:Step F0 F w0 w):AuBad w0 F0 d D0 R.length (thrA 8) w no:=
 .inl ⟨rfl,hn,cnt R,FD,cnt_le R,h.dev,h.told,st.1,fun k hk=>st.2 k (h.fD k hk)⟩
theorem PWA.bad (h:PWA w p d F D0 L R pcs ts) {no:Prop} (hn:no) {w0:World} {F0:Nat→Prop} (st:Step F0 F w0 w):AuBad w0 F0 d D0 R.length (thrA 8) w no:=by
 obtain ⟨FD,gr,cr,m,aP,cP,h⟩:=h;exact h.bad hn st
theorem PW.reached (h:PW w p d F FD D0 L gr cr m aP cP R pcs ts) {n:Nat} (hn:n<R.length) (hr:R.getD n false=false) {w1 w2:World} (h1:w1=w.setCell ⟨gr,n,none⟩ (.bool true)) (ht:tellsD (rdK D0 (cnt R))=true) (hd:Dev w2 d FD (readD (rdK D0 (cnt R)))) (hc:Ch w1.heap.size FD w1 w2):
  PW w2 p d F FD D0 L gr cr m aP cP (R.set n true) pcs ts∧Ch w.heap.size F w w2∧w2.heap[p]?=w.heap[p]?:=by
 have hset:Ch w.heap.size F w w1:=by rw [h1];exact Ch.set h.fg n _
 have hs1:w1.heap.size=w.heap.size:=by rw [h1,size_setCell]
 rw [hs1] at hc;have hch:Ch w.heap.size F w w2:=hset.trans (hc.mono (Nat.le_refl _) (fun k _ e=>h.fD k e));have kp:∀g,¬g=gr→¬FD g→g<w.heap.size→w2.heap[g]?=w.heap[g]?:=fun g h2 h3 h4=>(hc.block g h4 h3).trans (by rw [h1];exact Below.heap_setCell w ⟨gr,n,none⟩ _ g h2)
 have hcs:=cnt_set hn hr;have hl:(R.set n true).length=R.length:=List.length_set;obtain ⟨-,-,-,hst⟩:=ownL_at h.rch n hn;refine ⟨{h with lt:=fun k hk=>Nat.lt_of_lt_of_le (h.lt k hk) hch.size,dev:=by rw [hcs];exact hd,told:=fun j hj=>?_,rn:=by rw [hl];exact h.rn,cells:=?_,rch:=?_,pc:=?_,tx:=h.tx.keep (kp m (fun e=>h.gm e.symm) h.mD (h.lt m h.fm)),row:=fun x hx=>(h.row x hx).keep hch.size (fun g hg hlt=>⟨hch.block g hlt hg,hg⟩)},hch,kp p h.pg h.pD (h.lt p h.fp)⟩
 ·rw [hcs] at hj;rcases Nat.lt_succ_iff_lt_or_eq.1 hj with e|rfl
  ·exact h.told j e
  ·exact ht
 ·rw [kp p h.pg h.pD (h.lt p h.fp),hl];exact h.cells
 ·rw [hl];have h2:OwnL 0 w1 (.slice (some ⟨gr,0,none⟩) R.length cr) (R.set n true):=by rw [h1];exact hst true
  exact h2.kept (hc.block gr (h.lt gr h.fg) h.gD)
 ·exact h.pc.keepO (fun g hg=>kp g (fun e=>h.gP (e▸hg)) (h.PD g hg) (h.lt g (h.fP g hg)))
theorem PWA.same (h:PW w p d F FD D0 L gr cr m aP cP R pcs ts) {R':List Bool} {ts':List (Nat × Value)} (h':PWA w' p d F D0 L R' pcs ts') (hp:w'.heap[p]?=w.heap[p]?):∃FD' gr' cr' m',PW w' p d F FD' D0 L gr' cr' m' aP cP R' pcs ts':=by
 obtain ⟨FD',gr',cr',m',aP',cP',h'⟩:=h';have e:=h'.cells;rw [hp,h.cells] at e;simp only [Option.some.injEq,Obj.cells.injEq,Array.mk.injEq,List.cons.injEq,Value.slice.injEq,and_true,true_and] at e;have e1:aP=aP':=by simp_all
 have e2:cP=cP':=by simp_all
 subst e1;subst e2;exact ⟨FD',gr',cr',m',h'⟩
def ReachE (w:World) (p d:Nat) (F:Nat→Prop) (D0:Dv) (L:List Int) (R:List Bool) (pcs:List C4) (ts:List (Nat × Value)) (n:Int) (e:Ending) (w':World):Prop:=
 (∃g c,e=.returned (.slice (some ⟨g,0,none⟩) 256 c)∧rcB R n=true∧Own w.heap.size w' (.slice (some ⟨g,0,none⟩) 256 c) (pageOf L n.toNat)∧PWA w' p d F D0 L (R.set n.toNat true) pcs ts∧Ch w.heap.size F w w'∧w'.heap[p]?=w.heap[p]?)∨AuBad w F d D0 R.length e w' (rcB R n=false)
set_option maxHeartbeats 2000000 in
set_option maxRecDepth 20000 in
theorem reach_any (h:PWA w p d F D0 L R pcs ts) (n:Int) (hn:0≤n∧n≤9223372036854775807):
  Calls Tryz.prog 92 #[.pointer (some ⟨p,0,none⟩),.int .i64 n] w fun e w'=>ReachE w p d F D0 L R pcs ts n e w':=by
 have hrn:=h.rn;obtain ⟨FD,gr,cr,m,aP,cP,h⟩:=h;obtain ⟨c0,c1,c2,c3,fz⟩:=h.at;obtain ⟨-,k1,k2,-,-⟩:=h.rch.cap;unfold maxLen at k2;have HX:Hid (PW w p d F FD D0 L gr cr m aP cP R pcs ts):=h;obtain ⟨nn,rfl⟩:=Int.eq_ofNat_of_zero_le hn.1;obtain ⟨N,hN⟩:∃N,R.length=N:=⟨_,rfl⟩;have HN:Hid (R.length=N):=hN;rw [hN] at c1 k1;have h4096:N≤4096:=by omega
 by_cases hlt:nn<N
 ·obtain ⟨-,b1,b2,-⟩:=ownL_at h.rch nn (by omega);obtain ⟨y,hy⟩:∃y,R.getD nn false=y:=⟨_,rfl⟩;rw [hy] at b1;cases y with
  |true=>
   have HB:Hid (AuBad w F d D0 R.length (thrA 8) w (rcB R (nn:Int)=false)):=h.bad (by unfold rcB;rw [Int.toNat_natCast,hy];simp) (Step.refl F w);have hdm:=demand_no w;clear h fz hn hrn hN;go_enter Tryz.func92,Tryz.ntmps92
   go_wp2_with (go_at_call 54;refine hdm.mono ?_;rintro e w' ⟨rfl,rfl⟩;unfold thrA)
   exact ⟨rfl,.inr HB.out⟩
  |false=>
   have hset:Ch w.heap.size (fun k=>k=gr) w (w.setCell ⟨gr,nn,none⟩ (.bool true)):=(Ch.refl _ (fun k=>k=gr) w).setCell (p:=⟨gr,nn,none⟩) (.inr rfl) _;have hdv:Dev (w.setCell ⟨gr,nn,none⟩ (.bool true)) d FD (rdK D0 (cnt R)):=h.dev.ch hset (fun k hk e=>h.gD (e▸hk));have hop:=(rdK_is D0 (cnt R)).2.2.1;have hcl:=cnt_le R;have hops:=h.ops;have hrd:=read_any hdv (by omega) nn (by rw [(rdK_is D0 (cnt R)).2.1,←h.rn];omega);have hdm:=demand_yes;have HY:Hid (rcB R (nn:Int)=true):=by show _=true;unfold rcB;rw [Int.toNat_natCast,hy];simp;omega
   have HC:Hid (cnt R<R.length):=cnt_lt (by omega) hy;have e0:(w.setCell ⟨gr,nn,none⟩ (.bool true)).cell? ⟨p,0,none⟩=some (.pointer (some ⟨d,0,none⟩)):=(hset.cell (p:=⟨p,0,none⟩) (h.lt p h.fp) h.pg).trans c0;have HYY:Hid (R.getD nn false=false):=hy;cases ht:tellsD (rdK D0 (cnt R)) with
   |true=>
    have HT:Hid (tellsD (rdK D0 (cnt R))=true):=ht;have hdm1:=demand_yes w;unfold ReadEnd at hrd;rw [ht] at hrd;clear h fz hn hrn hN hset hdv hop hcl hops hy ht;obtain ⟨w1,hw1⟩:∃w1,w.setCell ⟨gr,nn,none⟩ (.bool true)=w1:=⟨_,rfl⟩;rw [hw1] at hrd e0;go_enter Tryz.func92,Tryz.ntmps92
    go_wp2_with (go_at_call 54;refine hdm1.mono ?_;rintro e w' ⟨rfl,rfl⟩)
    refine hrd.mono ?_;clear hrd;rintro e w2 ⟨he,hd2,hc2⟩;rw [if_pos trivial] at he;obtain ⟨g,c,rfl,ho⟩:=he;obtain ⟨f1,f2,f3⟩:=HX.out.reached (by rw [HN.out];exact hlt) HYY.out hw1.symm HT.out hd2 hc2;have hs1:w1.heap.size=w.heap.size:=by rw [←hw1,size_setCell]
    rw [hs1] at ho
    have HE:Hid (ReachE w p d F D0 L R pcs ts (nn:Int) (.returned (.slice (some ⟨g,0,none⟩) 256 c)) w2):=by
     refine .inl ⟨g,c,rfl,HY.out,?_,⟨_,_,_,_,_,_,f1⟩,f2,f3⟩;have e1:=(rdK_is D0 (cnt R)).1;rw [e1,HX.out.now] at ho;exact ho
    have hdm2:=demand_yes w2;clear ho f1 f2 f3 hd2 hc2 hw1 hs1;go_wp2_with (go_at_call 54;refine hdm2.mono ?_;rintro e w' ⟨rfl,rfl⟩)
    go_ret
    exact HE.out
   |false=>
    have HT:Hid (tellsD (rdK D0 (cnt R))=false):=ht;have hdm1:=demand_yes w;unfold ReadEnd at hrd;rw [ht] at hrd;clear h fz hn hrn hN hset hdv hop hcl hops hy ht;obtain ⟨w1,hw1⟩:∃w1,w.setCell ⟨gr,nn,none⟩ (.bool true)=w1:=⟨_,rfl⟩;rw [hw1] at hrd e0;go_enter Tryz.func92,Tryz.ntmps92
    go_wp2_with (go_at_call 54;refine hdm1.mono ?_;rintro e w' ⟨rfl,rfl⟩)
    refine hrd.mono ?_;clear hrd;rintro e w2 ⟨he,hd2,hc2⟩;rw [if_neg (by simp)] at he;subst he;have hset:Ch w.heap.size F w w1:=by rw [←hw1];exact Ch.set HX.out.fg nn _
    have hs1:w1.heap.size=w.heap.size:=by rw [←hw1,size_setCell]
    rw [hs1] at hc2;have HE:Hid (AuBad w F d D0 R.length (thrA 7) w2 (rcB R (nn:Int)=false)):=.inr ⟨rfl,cnt R,FD,HC.out,hd2,HX.out.told,HT.out,hset.trans (hc2.mono (Nat.le_refl _) (fun k _ e=>HX.out.fD k e)),fun k hk=>.inl (HX.out.fD k hk)⟩;clear hd2 hc2 hw1 hs1 hset;go_wp2;exact ⟨rfl,.inr HE.out⟩
 ·have HB:Hid (AuBad w F d D0 R.length (thrA 8) w (rcB R (nn:Int)=false)):=h.bad (by unfold rcB;rw [decide_eq_false (show ¬(nn:Int)<(R.length:Int) by omega)];simp) (Step.refl F w);have hdm:=demand_no w;clear h fz hn hrn hN;go_enter Tryz.func92,Tryz.ntmps92
  go_wp2_with (go_at_call 54;refine hdm.mono ?_;rintro e w' ⟨rfl,rfl⟩;unfold thrA)
  exact ⟨rfl,.inr HB.out⟩
end
end Go.Proofs.YtjllhcifmfhkmaaGreat.Oct
namespace Go.Proofs.YtjllhcifmfhkmaaGreat.Oct
open Go.RowKit
def FrR (R:List Bool) (tp:List Nat):Prop:=tp.Nodup∧∀n∈tp,R.getD n false=false
theorem fr_two {R:List Bool} {a b:List Nat} (hb:∀n∈b,n<R.length):FrR R (a++b)↔(FrR R a∧FrR (mkR R a) b):=by
 constructor
 ·rintro ⟨h1,h2⟩;have hnd:=List.nodup_append.1 h1;refine ⟨⟨hnd.1,fun n hn=>h2 n (List.mem_append_left _ hn)⟩,hnd.2.1,fun n hn=>?_⟩;rw [mkR_at (hb n hn),h2 n (List.mem_append_right _ hn),decide_eq_false (fun e=>hnd.2.2 n e n hn rfl)];rfl
 ·rintro ⟨⟨h1,h2⟩,h3,h4⟩;refine ⟨List.nodup_append.2 ⟨h1,h3,fun x hx y hy e=>?_⟩,fun n hn=>?_⟩
  ·subst e;have:=h4 x hy;rw [mkR_at (hb x hy),decide_eq_true hx] at this;simp at this
  ·rcases List.mem_append.1 hn with hn|hn
   ·exact h2 n hn
   ·have:=h4 n hn;rw [mkR_at (hb n hn)] at this;simp only [Bool.or_eq_false_iff] at this;exact this.1
theorem fr_one {R:List Bool} {n:Int} (hn:0≤n) (hl:n<(R.length:Int)):FrR R [n.toNat]↔rcB R n=true:=by
 unfold FrR rcB;rw [decide_eq_true hn,decide_eq_true hl];simp
def AtK (w:World) (b:Nat) (q:C4):Prop:=w.heap[b]?=some (.cells #[.int .i64 q.a,.int .i64 q.b,.int .i64 q.c,.int .i64 q.d] 130 (0,0))
theorem AtK.at {w:World} {b:Nat} {q:C4} (h:AtK w b q):w.cell? ⟨b,0,none⟩=some (.int .i64 q.a)∧w.cell? ⟨b,1,none⟩=some (.int .i64 q.b)∧w.cell? ⟨b,2,none⟩=some (.int .i64 q.c)∧w.cell? ⟨b,3,none⟩=some (.int .i64 q.d)∧∀i,w.frozen? ⟨b,i,none⟩=false:=by
 refine ⟨?_,?_,?_,?_,fun i=>?_⟩
 iterate 4 (rw [cell_of_row w b _ _ _ (0,0) h];rfl)
 unfold World.frozen?;rw [h];simp
theorem AtK.lt {w:World} {b:Nat} {q:C4} (h:AtK w b q):b<w.heap.size:=heap_lt h
theorem AtK.keep {w w':World} {b:Nat} {q:C4} (h:AtK w b q) (k:w'.heap[b]?=w.heap[b]?):AtK w' b q:=k.trans h
theorem AtK.set1 {w:World} {b:Nat} {q:C4} (h:AtK w b q) (x:Int):AtK (w.setCell ⟨b,1,none⟩ (.int .i64 x)) b {q with b:=x}:=by unfold AtK;rw [setCell_heap _ _ _ _ _ _ _ h];rfl
theorem AtK.set2 {w:World} {b:Nat} {q:C4} (h:AtK w b q) (x:Int):AtK (w.setCell ⟨b,2,none⟩ (.int .i64 x)) b {q with c:=x}:=by unfold AtK;rw [setCell_heap _ _ _ _ _ _ _ h];rfl
theorem AtK.set3 {w:World} {b:Nat} {q:C4} (h:AtK w b q) (x:Int):AtK (w.setCell ⟨b,3,none⟩ (.int .i64 x)) b {q with d:=x}:=by unfold AtK;rw [setCell_heap _ _ _ _ _ _ _ h];rfl
theorem AtK.set0 {w:World} {b:Nat} {q:C4} (h:AtK w b q) (x:Int):AtK (w.setCell ⟨b,0,none⟩ (.int .i64 x)) b {q with a:=x}:=by unfold AtK;rw [setCell_heap _ _ _ _ _ _ _ h];rfl
def putK (w:World) (b:Nat) (q:C4):World:=(((w.setCell ⟨b,0,none⟩ (.int .i64 q.a)).setCell ⟨b,1,none⟩ (.int .i64 q.b)).setCell ⟨b,2,none⟩ (.int .i64 q.c)).setCell ⟨b,3,none⟩ (.int .i64 q.d)
theorem putK_ch (w:World) (b:Nat) (q:C4):Ch w.heap.size (fun x=>x=b) w (putK w b q):=
 ((((Ch.refl _ (fun x=>x=b) w).setCell (p:=⟨b,0,none⟩) (.inr rfl) _).setCell (p:=⟨b,1,none⟩) (.inr rfl) _).setCell (p:=⟨b,2,none⟩) (.inr rfl) _).setCell (p:=⟨b,3,none⟩) (.inr rfl) _
theorem AtK.putK {w:World} {b:Nat} {q0:C4} (h:AtK w b q0) (q:C4):AtK (putK w b q) b q:=(((h.set0 _).set1 _).set2 _).set3 _
section
variable {w w':World} {p d gr cr m cP:Nat} {F FD:Nat→Prop} {D0:Dv} {L:List Int} {aP:Option Addr} {R:List Bool} {pcs:List C4} {ts:List (Nat × Value)}
theorem PWA.other (h:PWA w p d F D0 L R pcs ts) {b:Nat} (hc:Ch w.heap.size (fun x=>x=b) w w') (hn:¬F b) (hts:∀x∈ts,∀a n c,x.2=.slice a n c→¬obl a b):PWA w' p d F D0 L R pcs ts:=by
 obtain ⟨FD,gr,cr,m,aP,cP,h⟩:=h;have k:∀g,F g→w'.heap[g]?=w.heap[g]?:=fun g hg=>hc.block g (h.lt g hg) (fun e=>hn (e▸hg))
 refine ⟨FD,gr,cr,m,aP,cP,{h with lt:=fun g hg=>Nat.lt_of_lt_of_le (h.lt g hg) hc.size,dev:=h.dev.keep hc.size (fun g hg=>k g (h.fD g hg)),cells:=(k p h.fp).trans h.cells,rch:=h.rch.kept (k gr h.fg),pc:=h.pc.keepO (fun g hg=>k g (h.fP g hg)),tx:=h.tx.keep (k m h.fm),row:=fun x hx=>?_}⟩;obtain ⟨a,c,e,h1,h2⟩:=h.row x hx;exact ⟨a,c,e,h1.keepO (fun g hg=>hc.block g (h2 g hg).2 (fun e2=>hts x hx a _ c e (e2▸hg))),fun g hg=>⟨(h2 g hg).1,Nat.lt_of_lt_of_le (h2 g hg).2 hc.size⟩⟩
theorem PW.addPcs (h:PW w p d F FD D0 L gr cr m aP cP R pcs ts) (l:List C4) {w2:World} {g2 cap2:Nat} (ho:w2.ownsRow 0 72 4 (.slice (some ⟨g2,0,none⟩) (pcs.length+l.length) cap2) (pcs.length+l.length) (pcs.flatMap vals4++l.flatMap vals4))
  (hgr:w.grownBy w2 (Value.slice aP pcs.length cP).ownBlock) (hat:(Value.slice aP pcs.length cP).ownBlock=some g2∨g2=w.heap.size) (hlt:g2<w2.heap.size):
  (w2.cell? ⟨p,2,none⟩=some (.slice aP pcs.length cP)∧w2.frozen? ⟨p,2,none⟩=false)∧PW (w2.setCell ⟨p,2,none⟩ (.slice (some ⟨g2,0,none⟩) (pcs.length+l.length) cap2)) p d (fun k=>F k∨k=g2) FD D0 L gr cr m (some ⟨g2,0,none⟩) cap2 R (pcs++l) ts∧
   Step F (fun k=>F k∨k=g2) w (w2.setCell ⟨p,2,none⟩ (.slice (some ⟨g2,0,none⟩) (pcs.length+l.length) cap2)):=by
 have hs:w.heap.size≤w2.heap.size:=hgr.size;have hk:∀g,g<w.heap.size→¬obl aP g→w2.heap[g]?=w.heap[g]?:=fun g hg hne=>hgr.block g hg (fun e=>hne (obl_own e.symm))
 have hg:obl aP g2∨w.heap.size≤g2:=by
  rcases hat with e|e
  ·exact .inl (obl_own e)
  ·exact .inr (by omega)
 have lp:=h.lt p h.fp;have ob:∀y,obl (some (⟨g2,0,none⟩:Addr)) y→y=g2:=fun y ⟨x,e,hx⟩=>by cases e;exact hx.symm
 have ne:∀k,F k→¬obl aP k→¬g2=k:=fun k hk hn e=>by rcases hg with hg|hg;exact hn (e▸hg);have:=h.lt k hk;omega
 have hp2:¬g2=p:=ne p h.fp h.pP;have k:∀g,¬g=p→(w2.setCell ⟨p,2,none⟩ (.slice (some ⟨g2,0,none⟩) (pcs.length+l.length) cap2)).heap[g]?=w2.heap[g]?:=fun g hg=>Below.heap_setCell w2 ⟨p,2,none⟩ _ g hg
 have kk:∀g,F g→¬g=p→¬obl aP g→(w2.setCell ⟨p,2,none⟩ (.slice (some ⟨g2,0,none⟩) (pcs.length+l.length) cap2)).heap[g]?=w.heap[g]?:=fun g h1 h2 h3=>(k g h2).trans (hk g (h.lt g h1) h3)
 refine ⟨⟨?_,?_⟩,?_,⟨⟨?_,?_,?_,by rw [size_setCell];exact hs,fun x hlt' hnf=>?_⟩,fun x hx=>?_⟩⟩
 ·exact (World.cell?_of_block (w:=w) (a:=⟨p,2,none⟩) (hk p lp h.pP)).trans h.at.2.2.1
 ·exact (World.frozen?_of_block (w:=w) (a:=⟨p,2,none⟩) (hk p lp h.pP)).trans (h.at.2.2.2.2 2)
 ·refine {told:=h.told,now:=h.now,rn:=h.rn,ops:=h.ops,fD:=fun x hx=>.inl (h.fD x hx),fp:=.inl h.fp,fg:=.inl h.fg,fm:=.inl h.fm,pD:=h.pD,gD:=h.gD,mD:=h.mD,pg:=h.pg,pm:=h.pm,gm:=h.gm,lt:=?_,dev:=?_,cells:=?_,rch:=?_,pc:=?_,tx:=?_,row:=?_,fP:=?_,PD:=?_,pP:=?_,gP:=?_,mP:=?_}
  ·intro x hx;rw [size_setCell];rcases hx with hx|rfl
   ·have:=h.lt x hx;omega
   ·exact hlt
  ·exact h.dev.keep (by rw [size_setCell];exact hs) (fun g hg=>kk g (h.fD g hg) (fun e=>h.pD (e▸hg)) (fun e=>h.PD g e hg))
  ·rw [setCell_heap _ _ _ _ _ _ _ ((hk p lp h.pP).trans h.cells),List.length_append];rfl
  ·exact h.rch.kept (kk gr h.fg (fun e=>h.pg e.symm) h.gP)
  ·have ho':OwnC 72 0 w2 (.slice (some ⟨g2,0,none⟩) (pcs++l).length cap2) (pcs++l):=by
    unfold OwnC;rw [List.length_append,List.flatMap_append];exact ho
   exact OwnC.keepO ho' (fun g hg=>k g (fun e=>hp2 ((ob g hg).symm.trans e)))
  ·exact h.tx.keep (kk m h.fm (fun e=>h.pm e.symm) h.mP)
  ·intro x hx;refine (h.row x hx).keep (by rw [size_setCell];exact hs) (fun g hng hl=>⟨(k g (fun e=>hng (e▸h.fp))).trans (hk g hl (fun e=>hng (h.fP g e))),fun e=>?_⟩);rcases e with e|rfl
   ·exact hng e
   ·rcases hat with e|e
    ·exact hng (h.fP _ (obl_own e))
    ·omega
  ·intro x hx;exact .inr (ob x hx)
  ·intro x hx e;have:=ob x hx;subst this;rcases hat with e2|e2
   ·exact h.PD _ (obl_own e2) e
   ·have:=h.lt _ (h.fD _ e);omega
  ·exact fun e=>hp2 (ob p e).symm
  ·exact fun e=>ne gr h.fg h.gP (ob gr e).symm
  ·exact fun e=>ne m h.fm h.mP (ob m e).symm
 ·exact hgr.os
 ·exact hgr.tape
 ·exact hgr.output
 ·exact (k x (fun e=>hnf (e▸h.fp))).trans (hk x hlt' (fun e=>hnf (h.fP x e)))
 ·rcases hx with hx|rfl
  ·exact .inl hx
  ·rcases hg with hg|hg
   ·exact .inl (h.fP _ hg)
   ·exact .inr hg
end
theorem rowC_news {w:World} {b off cap:Nat} {l:List C4} (h:RowC w (some ⟨b,off,none⟩) cap l):∀(j:Nat) (u:Value),(l.flatMap vals4)[j]?=some u→w.cell? ((⟨b,off,none⟩:Addr).add j)=some u:=by
 intro j u hu
 have hj:j<l.length*4:=by
  rw [←vals_len];exact (List.getElem?_eq_some_iff.1 hu).1
 have e2:(⟨b,off,none⟩:Addr).add j=⟨b,off+j,none⟩:=by simp [Addr.add]
 have hv:=vals_at l (j/4) (j%4) (by omega) (by omega);rw [show j/4*4+j%4=j by omega,hu] at hv;rw [e2,hv];have ha:=h.cells (j/4) (by omega);obtain ⟨a0,a1,a2,a3⟩:=ha;rcases (by omega:j%4=0∨j%4=1∨j%4=2∨j%4=3) with e|e|e|e
 ·rw [e,show off+j=off+j/4*4 by omega];exact a0
 ·rw [e,show off+j=off+j/4*4+1 by omega];exact a1
 ·rw [e,show off+j=off+j/4*4+2 by omega];exact a2
 ·rw [e,show off+j=off+j/4*4+3 by omega];exact a3
theorem vals_one (l:List C4):∀u∈l.flatMap vals4,u.oneCell'=true:=by
 intro u hu;obtain ⟨q,_,hq⟩:=List.mem_flatMap.1 hu;simp [vals4] at hq;rcases hq with rfl|rfl|rfl|rfl<;>rfl
end Go.Proofs.YtjllhcifmfhkmaaGreat.Oct
