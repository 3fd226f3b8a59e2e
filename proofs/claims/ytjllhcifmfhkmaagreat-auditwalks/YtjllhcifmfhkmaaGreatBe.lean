/- Part of a proof. -/
import Derived.Test.YtjllhcifmfhkmaaGreatBb
import Derived.Test.YtjllhcifmfhkmaaGreatR
import Derived.Deep.RegionHeld3
namespace Go.Proofs.YtjllhcifmfhkmaaGreat.Oct
open Go.RowKit
section
variable {w w':World} {p gk ck cP cT ic:Nat} {F:Nat→Prop} {ia aP aT:Option Addr} {L:List Int} {q:Nat→Value} {W:Wk}
theorem RW.addPc (h:RW w p F ia ic L gk ck aP aT cP cT q W) (hn:0<W.kd.length) {w2:World} {g2 cap2:Nat} {x:C4} (hs:w.heap.size≤w2.heap.size) (hk:∀g,g<w.heap.size→¬obl aP g→w2.heap[g]?=w.heap[g]?)
  (ho:OwnC 72 0 w2 (.slice (some ⟨g2,0,none⟩) (W.pc.length+1) cap2) (W.pc++[x])) (hg:obl aP g2∨w.heap.size≤g2) (hlt:g2<w2.heap.size):
  RW (w2.setCell ⟨p,11,none⟩ (.slice (some ⟨g2,0,none⟩) (W.pc.length+1) cap2)) p (fun k=>F k∨k=g2) ia ic L gk ck (some ⟨g2,0,none⟩) aT cap2 cT q {W with pc:=W.pc++[x]}:=by
 have lp:=h.lt p h.fp;have lk:=h.lt gk h.fk;have hp:¬g2=p:=fun e=>by rcases hg with hg|hg;exact h.pP (e▸hg);omega
 have hgk:¬g2=gk:=fun e=>by rcases hg with hg|hg;exact h.kP (e▸hg);omega
 have hgT:¬obl aT g2:=fun e=>by rcases hg with hg|hg;exact h.PT g2 hg e;have:=h.lt g2 (h.fT g2 e);omega
 have k:∀g,¬g=p→(w2.setCell ⟨p,11,none⟩ (.slice (some ⟨g2,0,none⟩) (W.pc.length+1) cap2)).heap[g]?=w2.heap[g]?:=fun g hg=>Below.heap_setCell w2 ⟨p,11,none⟩ _ g hg
 have ob:∀y,obl (some ⟨g2,0,none⟩) y→y=g2:=fun y ⟨x,e,hx⟩=>by cases e;exact hx.symm
 have hil:=h.ilt hn;refine {fp:=.inl h.fp,fk:=.inl h.fk,kb:=h.kb,tb:=h.tb,il:=h.il,kl:=h.kl,pk:=h.pk,pT:=h.pT,kT:=h.kT,fT:=fun k hk=>.inl (h.fT k hk),lt:=?lt,fP:=?fP,cells:=?cells,kd:=?kd,pc:=?pc,tx:=?tx,img:=?img,inF:=?inF,pP:=?pP,kP:=?kP,PT:=?PT}
 case lt=>
  intro g hg;rw [size_setCell];rcases hg with hg|rfl;have:=h.lt g hg;omega;exact hlt
 case fP=>
  intro y hy;exact .inr (ob y hy)
 case cells=>
  rw [setCell_heap _ _ _ _ _ _ _ ((hk p lp h.pP).trans h.cells),List.length_append];rfl
 case kd=>
  exact (h.kd.kept (hk gk lk h.kP)).kept (k gk (fun e=>h.pk e.symm))
 case pc=>
  show OwnC _ _ _ (.slice _ (W.pc++[x]).length _) _;rw [List.length_append];exact OwnC.keepO ho (fun g hg=>k g (fun e=>hp ((ob g hg).symm.trans e)))
 case tx=>
  exact (h.tx.keepO (fun g hg=>hk g (h.lt g (h.fT g hg)) (fun e=>h.PT g e hg))).keepO (fun g hg=>k g (fun e=>h.pT (e▸hg)))
 case img=>
  exact (h.img.keepO (fun g hg=>hk g (hil g hg) (fun e=>h.inF g hg (h.fP g e)))).keepO (fun g hg=>k g (fun e=>h.inF g hg (e▸h.fp)))
 case inF=>
  rintro y hy (hy2|rfl)
  ·exact h.inF y hy hy2
  ·rcases hg with hg|hg
   ·exact h.inF _ hy (h.fP _ hg)
   ·have:=hil _ hy;omega
 case pP=>
  exact fun e=>hp (ob p e).symm
 case kP=>
  exact fun e=>hgk (ob gk e).symm
 case PT=>
  intro y hy e;rw [ob y hy] at e;exact hgT e
theorem RW.addTx (h:RW w p F ia ic L gk ck aP aT cP cT q W) (hn:0<W.kd.length) {w2:World} {g2 cap2 m:Nat} {z:List Int} (hz:Bys z) (hm:z.length=m) (hs:w.heap.size≤w2.heap.size) (hk:∀g,g<w.heap.size→¬obl aT g→w2.heap[g]?=w.heap[g]?)
  (ho:Own 0 w2 (.slice (some ⟨g2,0,none⟩) (W.tx.length+m) cap2) (W.tx++z)) (hg:obl aT g2∨w.heap.size≤g2) (hlt:g2<w2.heap.size):
  RW (w2.setCell ⟨p,12,none⟩ (.slice (some ⟨g2,0,none⟩) (W.tx.length+m) cap2)) p (fun k=>F k∨k=g2) ia ic L gk ck aP (some ⟨g2,0,none⟩) cP cap2 q {W with tx:=W.tx++z}:=by
 have lp:=h.lt p h.fp;have lk:=h.lt gk h.fk;have hp:¬g2=p:=fun e=>by rcases hg with hg|hg;exact h.pT (e▸hg);omega
 have hgk:¬g2=gk:=fun e=>by rcases hg with hg|hg;exact h.kT (e▸hg);omega
 have hgP:¬obl aP g2:=fun e=>by rcases hg with hg|hg;exact h.PT g2 e hg;have:=h.lt g2 (h.fP g2 e);omega
 have k:∀g,¬g=p→(w2.setCell ⟨p,12,none⟩ (.slice (some ⟨g2,0,none⟩) (W.tx.length+m) cap2)).heap[g]?=w2.heap[g]?:=fun g hg=>Below.heap_setCell w2 ⟨p,12,none⟩ _ g hg
 have ob:∀y,obl (some ⟨g2,0,none⟩) y→y=g2:=fun y ⟨x,e,hx⟩=>by cases e;exact hx.symm
 have hil:=h.ilt hn;subst hm;refine {fp:=.inl h.fp,fk:=.inl h.fk,kb:=h.kb,tb:=h.tb.app hz,il:=h.il,kl:=h.kl,pk:=h.pk,pP:=h.pP,kP:=h.kP,fP:=fun k hk=>.inl (h.fP k hk),lt:=?lt,fT:=?fT,cells:=?cells,kd:=?kd,pc:=?pc,tx:=?tx,img:=?img,inF:=?inF,pT:=?pT,kT:=?kT,PT:=?PT}
 case lt=>
  intro g hg;rw [size_setCell];rcases hg with hg|rfl;have:=h.lt g hg;omega;exact hlt
 case fT=>
  intro y hy;exact .inr (ob y hy)
 case cells=>
  rw [setCell_heap _ _ _ _ _ _ _ ((hk p lp h.pT).trans h.cells),List.length_append];rfl
 case kd=>
  exact (h.kd.kept (hk gk lk h.kT)).kept (k gk (fun e=>h.pk e.symm))
 case pc=>
  exact (h.pc.keepO (fun g hg=>hk g (h.lt g (h.fP g hg)) (fun e=>h.PT g hg e))).keepO (fun g hg=>k g (fun e=>h.pP (e▸hg)))
 case tx=>
  show Own _ _ (.slice _ (W.tx++z).length _) _;rw [List.length_append];exact Own.keepO ho (fun g hg=>k g (fun e=>hp ((ob g hg).symm.trans e)))
 case img=>
  exact (h.img.keepO (fun g hg=>hk g (hil g hg) (fun e=>h.inF g hg (h.fT g e)))).keepO (fun g hg=>k g (fun e=>h.inF g hg (e▸h.fp)))
 case inF=>
  rintro y hy (hy2|rfl)
  ·exact h.inF y hy hy2
  ·rcases hg with hg|hg
   ·exact h.inF _ hy (h.fT _ hg)
   ·have:=hil _ hy;omega
 case pT=>
  exact fun e=>hp (ob p e).symm
 case kT=>
  exact fun e=>hgk (ob gk e).symm
 case PT=>
  intro y hy e;rw [ob y e] at hy;exact hgP hy
end
theorem own_obl {a:Option Addr} {n c k:Nat} (h:obl a k):(Value.slice a n c).ownBlock=some k:=by
 obtain ⟨x,rfl,rfl⟩:=h;simp [Value.ownBlock]
section
variable {w w':World} {p gk ck cP cT ic:Nat} {F:Nat→Prop} {ia aP aT:Option Addr} {L:List Int} {q:Nat→Value} {W:Wk}
theorem RW.afterPc (h:RW w p F ia ic L gk ck aP aT cP cT q W) (hn:0<W.kd.length) (x:C4) {o:Obj} {w5:World} {g2 cap2:Nat} (ho:w5.ownsRow 0 72 4 (.slice (some ⟨g2,0,none⟩) (W.pc.length+1) cap2) (W.pc.length+1) (W.pc.flatMap vals4++vals4 x))
  (hgr:(w.alloc o).grownBy w5 (Value.slice aP W.pc.length cP).ownBlock) (hat:(Value.slice aP W.pc.length cP).ownBlock=some g2∨g2=w.heap.size+1) (hlt:g2<w5.heap.size):
  (w5.cell? ⟨p,11,none⟩=some (.slice aP W.pc.length cP)∧w5.frozen? ⟨p,11,none⟩=false)∧RW (w5.setCell ⟨p,11,none⟩ (.slice (some ⟨g2,0,none⟩) (W.pc.length+1) cap2)) p (fun k=>F k∨k=g2) ia ic L gk ck (some ⟨g2,0,none⟩) aT cap2 cT q {W with pc:=W.pc++[x]}∧
   Step F (fun k=>F k∨k=g2) w (w5.setCell ⟨p,11,none⟩ (.slice (some ⟨g2,0,none⟩) (W.pc.length+1) cap2)):=by
 have lp:=h.lt p h.fp;have hsz:w.heap.size≤w5.heap.size:=by have:=hgr.size;simp at this;omega
 have hk:∀g,g<w.heap.size→¬obl aP g→w5.heap[g]?=w.heap[g]?:=fun g hg hne=>(hgr.block g (by simp;omega) (fun e=>hne (obl_own e.symm))).trans (Below.heap_alloc _ _ _ hg)
 have hp:=hk p lp h.pP
 have hg:obl aP g2∨w.heap.size≤g2:=by
  rcases hat with e|e
  ·exact .inl (obl_own e)
  ·exact .inr (by omega)
 have ho':OwnC 72 0 w5 (.slice (some ⟨g2,0,none⟩) (W.pc.length+1) cap2) (W.pc++[x]):=by
  unfold OwnC;rw [List.length_append,List.flatMap_append]
  simpa using ho
 have hR:=h.addPc hn hsz hk ho' hg hlt;refine ⟨⟨?_,?_⟩,hR,⟨⟨?_,?_,?_,by rw [size_setCell];exact hsz,fun k hlt' hnf=>?_⟩,fun k hk'=>?_⟩⟩
 ·exact (World.cell?_of_block (w:=w) (a:=⟨p,11,none⟩) hp).trans h.at.2.2.1
 ·exact (World.frozen?_of_block (w:=w) (a:=⟨p,11,none⟩) hp).trans (h.frz 11)
 ·exact hgr.os
 ·exact hgr.tape
 ·exact hgr.output
 ·exact (Below.heap_setCell w5 ⟨p,11,none⟩ _ k (fun e=>hnf (e▸h.fp))).trans (hk k hlt' (fun e=>hnf (h.fP k e)))
 ·rcases hk' with hk'|rfl
  ·exact .inl hk'
  ·rcases hg with hg|hg
   ·exact .inl (h.fP _ hg)
   ·exact .inr hg
theorem RW.afterTx (h:RW w p F ia ic L gk ck aP aT cP cT q W) (hn:0<W.kd.length) {z:List Int} {m:Nat} (hz:Bys z) (hm:z.length=m) {w5:World} {g2 cap2:Nat} (ho:w5.ownsRow 0 5 1 (.slice (some ⟨g2,0,none⟩) (W.tx.length+m) cap2) (W.tx.length+m) (W.tx.map (Value.int .u8)++z.map (Value.int .u8)))
  (hgr:w.grownBy w5 (Value.slice aT W.tx.length cT).ownBlock) (hat:(Value.slice aT W.tx.length cT).ownBlock=some g2∨g2=w.heap.size) (hlt:g2<w5.heap.size):
  (w5.cell? ⟨p,12,none⟩=some (.slice aT W.tx.length cT)∧w5.frozen? ⟨p,12,none⟩=false)∧RW (w5.setCell ⟨p,12,none⟩ (.slice (some ⟨g2,0,none⟩) (W.tx.length+m) cap2)) p (fun k=>F k∨k=g2) ia ic L gk ck aP (some ⟨g2,0,none⟩) cP cap2 q {W with tx:=W.tx++z}∧
   Step F (fun k=>F k∨k=g2) w (w5.setCell ⟨p,12,none⟩ (.slice (some ⟨g2,0,none⟩) (W.tx.length+m) cap2)):=by
 have lp:=h.lt p h.fp;have hsz:w.heap.size≤w5.heap.size:=hgr.size;have hk:∀g,g<w.heap.size→¬obl aT g→w5.heap[g]?=w.heap[g]?:=fun g hg hne=>hgr.block g hg (fun e=>hne (obl_own e.symm))
 have hp:=hk p lp h.pT
 have hg:obl aT g2∨w.heap.size≤g2:=by
  rcases hat with e|e
  ·exact .inl (obl_own e)
  ·exact .inr (by omega)
 have ho':Own 0 w5 (.slice (some ⟨g2,0,none⟩) (W.tx.length+m) cap2) (W.tx++z):=by
  unfold Own;rw [List.length_append,List.map_append,hm];exact ho
 have hR:=h.addTx hn hz hm hsz hk ho' hg hlt;refine ⟨⟨?_,?_⟩,hR,⟨⟨?_,?_,?_,by rw [size_setCell];exact hsz,fun k hlt' hnf=>?_⟩,fun k hk'=>?_⟩⟩
 ·exact (World.cell?_of_block (w:=w) (a:=⟨p,12,none⟩) hp).trans h.at.2.2.2.1
 ·exact (World.frozen?_of_block (w:=w) (a:=⟨p,12,none⟩) hp).trans (h.frz 12)
 ·exact hgr.os
 ·exact hgr.tape
 ·exact hgr.output
 ·exact (Below.heap_setCell w5 ⟨p,12,none⟩ _ k (fun e=>hnf (e▸h.fp))).trans (hk k hlt' (fun e=>hnf (h.fT k e)))
 ·rcases hk' with hk'|rfl
  ·exact .inl hk'
  ·rcases hg with hg|hg
   ·exact .inl (h.fT _ hg)
   ·exact .inr hg
end
def lnJ (T:List Int) (B j:Nat):Int:=lin ((T.take j).drop B)
theorem lnJ_succ {T:List Int} {B j:Nat} (hB:B≤j) (hj:j<T.length):lnJ T B (j+1)=lnJ T B j+(if T.getD j 0=10 then 1 else 0):=by
 unfold lnJ;rw [take_snoc T j hj,List.drop_append_of_le_length (by rw [List.length_take];omega),lin_snoc]
theorem lnJ_zero (T:List Int) (B:Nat):lnJ T B B=0:=by
 unfold lnJ;rw [List.drop_eq_nil_of_le (by rw [List.length_take];omega)];rfl
theorem lnJ_bd (T:List Int) (B j:Nat):0≤lnJ T B j∧lnJ T B j≤j:=by
 have:=lin_bd ((T.take j).drop B);unfold lnJ;rw [List.length_drop,List.length_take] at this;omega
theorem lnJ_all (T:List Int) (B C:Nat):lnJ T B (B+C)=lin ((T.drop B).take C):=by
 unfold lnJ;rw [List.drop_take,Nat.add_sub_cancel_left]
theorem tkH {P:Program} {ops:Array Oper} {Q:Exit→Act→World→Prop} {md:Region.Mode} {S:World→Prop} {fuel:Nat} {listed:Array Bool} {a:Act} {w:World} {oi:Oper} (v:Value) (i:Nat)
  (hy:∀w,S w→(execOp a.eval oi).run P w=.ok (.value v) w) (h:wpAnyH P md ops Q S fuel (listed.setIfInBounds i true) (a.put oi.dst v) w)
  (hi:ops[i]?=some oi:=by exact rfl) (hs:Region.noSelect ops=true:=by kernel_rfl) (hf:Region.free md ops listed i=true:=by kernel_rfl)
  (hr:(Region.ready md ops listed).contains i=true:=by kernel_rfl) (hQ:∀c a w,Q (.panic c) (a.put oi.dst v) w→Q (.panic c) a w:=by exact fun _ _ _ h=>h)
  (hw:Region.wanted oi (yielded ops a.tmps)=true:=by rfl) (hS:S w:=by assumption):wpAnyH P md ops Q S (fuel+1) listed a w:=
 wpAnyH_take hi hs hf hr hQ (Or.inl ⟨hw,hy⟩) hS h
theorem gx:(∀(α:Type) (l:List α) (i:Nat) (h:i<l.toArray.size),l.toArray[i]=l[i]'(by simpa using h))∧
  (∀(α:Type) (x:α) (l:List α) (i:Nat) (h:i+1<(x::l).length),(x::l)[i+1]=l[i]'(by simpa using h))∧
  (∀(α:Type) (x:α) (l:List α) (h:0<(x::l).length),(x::l)[0]=x)∧
  (∀(a:Act) (d:Tmp) (v:Value),a.put (some d) v={a with tmps:=a.tmps.setIfInBounds d v})∧(∀(a:Act) (v:Value),a.put none v=a)∧
  (∀(α:Type) (l:List α) (i:Nat) (a:α),l.toArray.setIfInBounds i a=(l.set i a).toArray)∧
  (∀(α:Type) (x a:α) (l:List α),(x::l).set 0 a=a::l)∧(∀(α:Type) (x a:α) (l:List α) (i:Nat),(x::l).set (i+1) a=x::l.set i a):=
 ⟨fun _ _ _ _=>rfl,fun _ _ _ _ _=>rfl,fun _ _ _ _=>rfl,fun _ _ _=>rfl,fun _ _=>rfl,fun _ _ _ _=>by simp,fun _ _ _ _=>rfl,fun _ _ _ _ _=>rfl⟩
end Go.Proofs.YtjllhcifmfhkmaaGreat.Oct
