/- Part of a proof. -/
import Derived.Test.YtaijfhadecennaaGreatChecked
import Derived.WalkKit
import Derived.WalkLawsBesides
import Derived.WalkSpells
import Derived.Below
import Derived.BigQuiet
import Derived.Deep.QuietTactic
import Derived.Deep.MidRow
import Derived.Laws.CopyOwn
import Derived.OwnWalk
open Go.Proofs.Tryz
set_option maxHeartbeats 1000000
namespace Go.Proofs.YtaijfhadecennaaGreat.Oct
open Go.RowKit
theorem jA:type_of% @List.getD_eq_getElem?_getD:=@List.getD_eq_getElem?_getD
theorem jB:type_of% @Nat.le_refl:=@Nat.le_refl
theorem jC:type_of% @List.getElem?_eq_getElem:=@List.getElem?_eq_getElem
theorem jD:type_of% @List.setIfInBounds_toArray:=@List.setIfInBounds_toArray
theorem jE:type_of% @decide_eq_true:=@decide_eq_true
theorem jF:type_of% @List.getElem_cons_zero:=@List.getElem_cons_zero
theorem jG:type_of% @List.getElem_cons_succ:=@List.getElem_cons_succ
theorem jH:type_of% @decide_eq_false:=@decide_eq_false
theorem jI:type_of% @List.set_cons_succ:=@List.set_cons_succ
theorem jJ:type_of% @List.getElem_toArray:=@List.getElem_toArray
theorem jK:type_of% @List.length_replicate:=@List.length_replicate
theorem jL:type_of% @List.set_cons_zero:=@List.set_cons_zero
theorem jM:type_of% @List.mem_cons_of_mem:=@List.mem_cons_of_mem
theorem jN:type_of% @List.length_append:=@List.length_append
theorem jO:type_of% @Bool.and_eq_true:=@Bool.and_eq_true
theorem jP:type_of% @Nat.le_trans:=@Nat.le_trans
theorem jQ:type_of% @Option.some.injEq:=@Option.some.injEq
theorem jR:type_of% @decide_eq_true_eq:=@decide_eq_true_eq
theorem jS:type_of% @Int.toNat_natCast:=@Int.toNat_natCast
theorem jT:type_of% @Nat.zero_le:=@Nat.zero_le
theorem jU:type_of% @List.mem_of_mem_take:=@List.mem_of_mem_take
theorem jV:type_of% @List.mem_of_mem_drop:=@List.mem_of_mem_drop
theorem jW:type_of% @Int.eq_ofNat_of_zero_le:=@Int.eq_ofNat_of_zero_le
theorem jX:type_of% @List.append_assoc:=@List.append_assoc
theorem jY:type_of% @List.length_set:=@List.length_set
theorem jZ:type_of% @of_decide_eq_true:=@of_decide_eq_true
theorem qA:type_of% @Nat.lt_of_lt_of_le:=@Nat.lt_of_lt_of_le
theorem qB:type_of% @List.getElem_mem:=@List.getElem_mem
theorem qC:type_of% @List.length_drop:=@List.length_drop
theorem qD:type_of% @List.getElem?_eq_none:=@List.getElem?_eq_none
theorem qE:type_of% @List.eq_nil_of_length_eq_zero:=@List.eq_nil_of_length_eq_zero
theorem qF:type_of% @Int.toNat_of_nonneg:=@Int.toNat_of_nonneg
theorem qG:type_of% @List.length_take:=@List.length_take
theorem qH:type_of% @List.getElem?_map:=@List.getElem?_map
theorem qI:type_of% @List.map_append:=@List.map_append
theorem qJ:type_of% @Option.getD_some:=@Option.getD_some
theorem qK:type_of% @List.getElem?_cons_succ:=@List.getElem?_cons_succ
theorem qL:type_of% @List.mem_append_right:=@List.mem_append_right
theorem qM:type_of% @List.mem_append_left:=@List.mem_append_left
theorem qN:type_of% @List.length_cons:=@List.length_cons
theorem qO:type_of% @List.getElem?_drop:=@List.getElem?_drop
theorem qP:type_of% @List.getElem?_append_left:=@List.getElem?_append_left
theorem qQ:type_of% @List.map_cons:=@List.map_cons
theorem qR:type_of% @List.take_of_length_le:=@List.take_of_length_le
theorem qT:type_of% @Nat.zero_add:=@Nat.zero_add
theorem qU:type_of% @List.length_map:=@List.length_map
theorem qV:type_of% @List.mem_append:=@List.mem_append
theorem qW:type_of% @List.drop_of_length_le:=@List.drop_of_length_le
theorem qX:type_of% @List.getElem?_set_self:=@List.getElem?_set_self
theorem qY:type_of% @List.getElem?_append_right:=@List.getElem?_append_right
theorem qZ:type_of% @List.getElem?_toArray:=@List.getElem?_toArray
theorem xA:type_of% @List.getElem?_replicate:=@List.getElem?_replicate
theorem xB:type_of% @List.getElem?_cons_zero:=@List.getElem?_cons_zero
theorem xC:type_of% @List.map_congr_left:=@List.map_congr_left
theorem xD:type_of% @Array.getElem?_eq_getElem:=@Array.getElem?_eq_getElem
theorem xE:type_of% @List.take_append_drop:=@List.take_append_drop
theorem xF:type_of% @List.length_eraseIdx_of_lt:=@List.length_eraseIdx_of_lt
theorem xG:type_of% @beq_eq_false_iff_ne:=@beq_eq_false_iff_ne
theorem xH:type_of% @List.set_append_right:=@List.set_append_right
theorem xI:type_of% @List.replicate_append_replicate:=@List.replicate_append_replicate
theorem xJ:type_of% @List.getElem?_set_ne:=@List.getElem?_set_ne
theorem xK:type_of% @List.nodup_cons:=@List.nodup_cons
theorem xL:type_of% @List.mem_map_of_mem:=@List.mem_map_of_mem
theorem xM:type_of% @List.take_add_one:=@List.take_add_one
theorem xN:type_of% @List.nil_append:=@List.nil_append
theorem xO:type_of% @decide_eq_true_iff:=@decide_eq_true_iff
theorem xP:type_of% @Bool.true_and:=@Bool.true_and
theorem xQ:type_of% @Prod.mk.injEq:=@Prod.mk.injEq
theorem xR:type_of% @List.map_nil:=@List.map_nil
theorem xS:type_of% @Nat.le_of_eq:=@Nat.le_of_eq
theorem xT:type_of% @List.size_toArray:=@List.size_toArray
theorem xU:type_of% @List.nodup_iff_pairwise_ne:=@List.nodup_iff_pairwise_ne
theorem xV:type_of% @List.getElem_of_mem:=@List.getElem_of_mem
theorem xW:type_of% @List.append_nil:=@List.append_nil
theorem xX:type_of% @Nat.min_eq_left:=@Nat.min_eq_left
theorem xY:type_of% @List.drop_eq_getElem_cons:=@List.drop_eq_getElem_cons
theorem xZ:type_of% @List.getElem?_take:=@List.getElem?_take
theorem yA:type_of% @List.mem_singleton:=@List.mem_singleton
theorem yB:type_of% @List.mem_cons_self:=@List.mem_cons_self
theorem yC:type_of% @Bool.false_eq_true:=@Bool.false_eq_true
theorem yD:type_of% @List.getElem?_set:=@List.getElem?_set
theorem yE:type_of% @Bool.eq_iff_iff:=@Bool.eq_iff_iff
theorem yF:type_of% @beq_iff_eq:=@beq_iff_eq
theorem yG:type_of% @List.length_nil:=@List.length_nil
theorem yH:type_of% @Option.some.inj:=@Option.some.inj
theorem yI:type_of% @List.foldl_cons:=@List.foldl_cons
theorem yJ:type_of% @Nat.add_assoc:=@Nat.add_assoc
theorem yK:type_of% @List.mem_cons:=@List.mem_cons
theorem yL:type_of% @List.drop_append:=@List.drop_append
theorem yM:type_of% @List.not_mem_nil:=@List.not_mem_nil
theorem yN:type_of% @Option.map_some:=@Option.map_some
def Bys (zs:List Int):Prop:=∀z∈zs,0<=z/\z<=255
theorem Bys.at {zs:List Int} (h:Bys zs) (i:Nat):0<=zs.getD i 0/\zs.getD i 0<=255:=by
 by_cases hi:i<zs.length
 ·rw [jA,jC hi];exact h _ (qB hi)
 ·rw [jA,qD (by omega)];simp
def Row (w:World) (a:Option Addr) (cap:Nat) (zs:List Int):Prop:=
 Bys zs/\zs.length<=cap/\cap<=maxLen/\(zs=[]\/∃b off,a=some ⟨b,off,none⟩/\∀i,i<zs.length->w.cell? ⟨b,off+i,none⟩=some (.int .u8 (zs.getD i 0)))
theorem Row.below {w w':World} {a:Option Addr} {cap:Nat} {zs:List Int} (h:Row w a cap zs) (k:Below w.heap.size w w'):Row w' a cap zs:=by
 obtain ⟨h1,h2,h3,h4⟩:=h;refine ⟨h1,h2,h3,?_⟩;rcases h4 with h4|⟨b,off,ha,hc⟩
 ·exact .inl h4
 ·exact .inr ⟨b,off,ha,fun i hi=>(k.cell (p:=⟨b,off+i,none⟩) (block_lt_of_cell (hc i hi))).trans (hc i hi)⟩
theorem row_new (w:World) (zs:List Int) (t:TypeId) (hb:Bys zs) (hm:zs.length<=maxLen):
  Row (w.alloc (.cells (zs.map (Value.int .u8)).toArray t)) (some ⟨w.heap.size,0,none⟩) zs.length zs:=by
 refine ⟨hb,jB _,hm,.inr ⟨_,_,rfl,fun i hi=>?_⟩⟩;rw [World.cell?_alloc_at _ _ _ _ rfl];simp [hi]
def IsRow (k:IntKind) (w:World) (a:Option Addr) (len cap:Nat) (zs:List Int):Prop:=
 (a=none/\len=0/\cap=0/\zs=[])\/
 ∃x,a=some x/\len<=cap/\cap<=maxLen/\zs.length=cap/\(∀i,i<zs.length->w.cell? (x.add i)=some (.int k (zs.getD i 0)))/\∀n∈zs,(Lit.int k n).wf=true
theorem u8_wf {z:Int} (h:(Lit.int .u8 z).wf=true):0<=z/\z<=255:=by
 simp [Lit.wf,IntKind.min,IntKind.max,IntKind.signed,IntKind.bits] at h;omega
theorem IsRow.row {w:World} {a:Option Addr} {len cap:Nat} {zs:List Int} (h:IsRow .u8 w a len cap zs):
  ∃ys:List Int,len=ys.length/\Row w a cap ys:=by
 rcases h with ⟨rfl,rfl,rfl,rfl⟩|⟨x,rfl,hl,hm,hz,hcell,hwz⟩
 ·exact ⟨[],rfl,by intro z hz;simp at hz,jB _,by simp [maxLen],.inl rfl⟩
 ·refine ⟨zs.take len,by simp;omega,fun z hmem=>u8_wf (hwz z (jU hmem)),by simp;omega,hm,?_⟩;by_cases h0:len=0
  ·exact .inl (by simp [h0])
  ·refine .inr ?_;obtain ⟨b,off,spot⟩:=x;have hc:=hcell 0 (by omega);have hspot:spot=none:=by simpa [Addr.add] using World.cell?_spot hc
   subst hspot;refine ⟨b,off,rfl,fun i hi=>?_⟩;simp at hi;have:=hcell i (by omega);have e:(⟨b,off,none⟩:Addr).add i=⟨b,off+i,none⟩:=by simp [Addr.add]
   rw [e] at this;rw [this];simp [show i<len by omega]
theorem Bys.app {xs ys:List Int} (hx:Bys xs) (hy:Bys ys):Bys (xs++ys):=by
 intro z hz;rcases List.mem_append.1 hz with h|h
 ·exact hx z h
 ·exact hy z h
theorem Row.some' {w:World} {a:Option Addr} {cap:Nat} {zs:List Int} (h:Row w a cap zs) (hl:0<zs.length):∃b off,a=some ⟨b,off,none⟩:=by
 rcases h.2.2.2 with h|⟨b,off,rfl,_⟩
 ·rw [h] at hl;exact absurd hl (by simp)
 ·exact ⟨b,off,rfl⟩
theorem Row.cells {w:World} {b off cap:Nat} {zs:List Int} (h:Row w (some ⟨b,off,none⟩) cap zs):∀i,i<zs.length->w.cell? ⟨b,off+i,none⟩=some (.int .u8 (zs.getD i 0)):=by
 intro i hi;rcases h.2.2.2 with h|⟨b',off',e,hc⟩
 ·rw [h] at hi;exact absurd hi (by simp)
 ·simp only [jQ,Addr.mk.injEq,and_true] at e;obtain ⟨rfl,rfl⟩:=e;exact hc i hi
theorem info5:(prog.info? 5).map (fun i=>(i.zero,i.size,i.bytes))=some (some (.int .u8 0),1,1):=by kernel_rfl
def Own (base:Nat) (w:World) (v:Value) (zs:List Int):Prop:=w.ownsRow base 5 1 v zs.length (zs.map (Value.int .u8))
theorem Own.lt' {base:Nat} {w:World} {v:Value} {zs:List Int} (h:Own base w v zs) (k:Nat) (hk:v.ownBlock=some k):base<=k:=(World.ownsRow.lt h k hk).1
theorem Own.row {base:Nat} {w:World} {v:Value} {zs:List Int} (h:Own base w v zs) (hb:Bys zs):∃a cap,v=.slice a zs.length cap/\Row w a cap zs:=by
 obtain ⟨_,⟨rfl,h0⟩|⟨g,cap,cur,rfl,hg,hc,hn,hm,hs,ht⟩⟩:=id h
 ·refine ⟨none,0,by rw [h0],hb,by omega,by simp [maxLen],.inl (qE h0)⟩
 ·refine ⟨_,cap,rfl,hb,hn,hm,.inr ⟨g,0,rfl,fun i hi=>?_⟩⟩;have:=World.ownsRow.cellAt h i (by omega);rw [qT,this];simp [hi]
theorem Own.row' {base:Nat} {w:World} {a:Option Addr} {n cap:Nat} {zs:List Int} (h:Own base w (.slice a n cap) zs) (hb:Bys zs):n=zs.length/\Row w a cap zs:=by
 obtain ⟨a',cap',e,hr⟩:=h.row hb;simp only [Value.slice.injEq] at e;obtain ⟨rfl,rfl,rfl⟩:=e;exact ⟨rfl,hr⟩
theorem kC {base:Nat} {w:World} {v:Value} {zs:List Int} (h:Own base w v zs) (j:Nat) (hj:j<zs.length):
  ∃g cap,v=.slice (some ⟨g,0,none⟩) zs.length cap/\base<=g/\w.cell? ⟨g,j,none⟩=some (.int .u8 (zs.getD j 0))/\w.frozen? ⟨g,j,none⟩=false/\
   ∀y:Int,Own base (w.setCell ⟨g,j,none⟩ (.int .u8 y)) (.slice (some ⟨g,0,none⟩) zs.length cap) (zs.set j y):=by
 have h':=h;obtain ⟨_,⟨rfl,h0⟩|⟨g,cap,cur,rfl,hg,hc,hn,hm,hs,ht⟩⟩:=h
 ·omega
 ·refine ⟨g,cap,rfl,hg,?_,World.ownsRow.frozenAt h' j,fun y=>?_⟩
  ·rw [World.ownsRow.cellAt h' j (by omega)];simp [hj]
  ·have:=World.ownsRow.stored h' j (.int .u8 y);unfold Own;rw [jY,List.map_set];exact this.1
theorem JL {base g n cap:Nat} {w:World} {zs:List Int} (h:Own base w (.slice (some ⟨g,0,none⟩) n cap) zs) (j:Nat) (hj:j<zs.length):
  n=zs.length/\w.cell? ⟨g,j,none⟩=some (.int .u8 (zs.getD j 0))/\w.frozen? ⟨g,j,none⟩=false/\
   ∀y:Int,Own base (w.setCell ⟨g,j,none⟩ (.int .u8 y)) (.slice (some ⟨g,0,none⟩) n cap) (zs.set j y):=by
 obtain ⟨g',cap',e,_,h1,h2,h3⟩:=kC h j hj;simp only [Value.slice.injEq,jQ,Addr.mk.injEq,and_true] at e;obtain ⟨rfl,rfl,rfl⟩:=e;exact ⟨rfl,h1,h2,h3⟩
theorem vD (zs:List Int) (k:Nat) (hk:k<zs.length):zs.take (k+1)=zs.take k++[zs.getD k 0]:=by
 rw [xM,jC hk,jA,jC hk];rfl
theorem QM (xs ys:List Int) (i:Nat):(xs++ys).getD i 0=if i<xs.length then xs.getD i 0 else ys.getD (i-xs.length) 0:=by
 simp only [jA,List.getElem?_append];split<;>rfl
theorem yZ {xs ys:List Int} (hl:xs.length=ys.length) (h:∀i,i<xs.length->xs.getD i 0=ys.getD i 0):xs=ys:=by
 refine List.ext_getElem hl fun i h1 h2=>?_
 have:=h i h1;rw [jA,jA,jC h1,jC h2] at this;exact this
structure Ch (B:Nat) (F:Nat->Prop) (w w':World):Prop where
 os:w'.os=w.os
 tape:w'.tape=w.tape
 output:w'.output=w.output
 size:w.heap.size<=w'.heap.size
 block:∀k,k<B->¬F k->w'.heap[k]?=w.heap[k]?
theorem Ch.refl (B:Nat) (F:Nat->Prop) (w:World):Ch B F w w:=⟨rfl,rfl,rfl,jB _,fun _ _ _=>rfl⟩
theorem Ch.trans {B:Nat} {F:Nat->Prop} {a b c:World} (h:Ch B F a b) (k:Ch B F b c):Ch B F a c:=
 ⟨k.os.trans h.os,k.tape.trans h.tape,k.output.trans h.output,jP h.size k.size,fun i hi hf=>(k.block i hi hf).trans (h.block i hi hf)⟩
theorem Ch.mono {B B':Nat} {F F':Nat->Prop} {a b:World} (h:Ch B F a b) (hB:B'<=B) (hF:∀k,k<B'->F k->F' k):Ch B' F' a b:=
 ⟨h.os,h.tape,h.output,h.size,fun i hi hf=>h.block i (by omega) (fun e=>hf (hF i hi e))⟩
theorem Ch.drew {B:Nat} {F:Nat->Prop} {a b:World} (h:Ch B F a b):Ch B F a b.drew:=⟨h.os,h.tape,h.output,h.size,h.block⟩
theorem Ch.of {B:Nat} {a b:World} (F:Nat->Prop) (h:Below B a b):Ch B F a b:=⟨h.os,h.tape,h.output,h.size,fun i hi _=>h.block i hi⟩
theorem Ch.below {B:Nat} {F:Nat->Prop} {a b:World} (h:Ch B F a b) (hF:∀k,F k->B<=k):Below B a b:=⟨h.os,h.tape,h.output,h.size,fun i hi=>h.block i hi (fun e=>by have:=hF i e;omega)⟩
theorem Ch.alloc {B:Nat} {F:Nat->Prop} {a w:World} (h:Ch B F a w) (hB:B<=w.heap.size) (o:Obj):Ch B F a (w.alloc o):=
 h.trans (Ch.of F ((Below.refl B w).alloc hB o))
theorem Ch.setCell {B:Nat} {F:Nat->Prop} {a w:World} (h:Ch B F a w) {p:Addr} (hp:B<=p.block\/F p.block) (u:Value):Ch B F a (w.setCell p u):=
 h.trans ⟨rfl,rfl,rfl,by simp [World.setCell],fun k hk hf=>Below.heap_setCell _ _ _ _ (by rintro rfl;rcases hp with hp|hp;omega;exact hf hp)⟩
theorem Ch.setRow {B:Nat} {F:Nat->Prop} {a w:World} (h:Ch B F a w) {g:Nat} (hp:B<=g\/F g) (cs:Array Value):Ch B F a (w.setRow g cs):=
 h.trans ⟨rfl,rfl,rfl,by simp [World.setRow],fun k hk hf=>setRow_other w g k cs (by rintro rfl;rcases hp with hp|hp;omega;exact hf hp)⟩
theorem Ch.grown {B:Nat} {F:Nat->Prop} {a w w':World} {row:Option Nat} (h:Ch B F a w) (hg:w.grownBy w' row) (hB:B<=w.heap.size) (hr:∀k,row=some k->B<=k\/F k):Ch B F a w':=
 h.trans ⟨hg.os,hg.tape,hg.output,hg.size,fun k hk hf=>hg.block k (by omega) (fun e=>by rcases hr k e.symm with h|h;omega;exact hf h)⟩
theorem Ch.cell {B:Nat} {F:Nat->Prop} {w w':World} (h:Ch B F w w') {p:Addr} (hp:p.block<B) (hf:¬F p.block):w'.cell? p=w.cell? p:=World.cell?_of_block (w:=w) (h.block p.block hp hf)
theorem Ch.frozen {B:Nat} {F:Nat->Prop} {w w':World} (h:Ch B F w w') {p:Addr} (hp:p.block<B) (hf:¬F p.block):w'.frozen? p=w.frozen? p:=World.frozen?_of_block (w:=w) (h.block p.block hp hf)
theorem Row.ch {w w':World} {a:Option Addr} {cap:Nat} {zs:List Int} (h:Row w a cap zs) {F:Nat->Prop} (k:Ch w.heap.size F w w') (hF:∀x,a=some x->¬F x.block):Row w' a cap zs:=by
 obtain ⟨h1,h2,h3,h4⟩:=h;refine ⟨h1,h2,h3,?_⟩;rcases h4 with h4|⟨b,off,ha,hc⟩
 ·exact .inl h4
 ·exact .inr ⟨b,off,ha,fun i hi=>(k.cell (p:=⟨b,off+i,none⟩) (block_lt_of_cell (hc i hi)) (hF ⟨b,off,none⟩ ha)).trans (hc i hi)⟩
theorem yR {w:World} {k:Nat} {o:Obj} (h:w.heap[k]?=some o):k<w.heap.size:=(Array.getElem?_eq_some_iff.1 h).1
theorem yQ {w w':World} {base:Nat} {e:TypeId} {size:Nat} {v:Value} {n:Nat} {xs:List Value} (h:w.ownsRow base e size v n xs) (k:∀g,v.ownBlock=some g->w'.heap[g]?=w.heap[g]?):w'.ownsRow base e size v n xs:=by
 refine ⟨h.1,?_⟩;rcases h.2 with hn|⟨g,cap,cur,rfl,hb,hgg,rest⟩
 ·exact .inl hn
 ·exact .inr ⟨g,cap,cur,rfl,hb,(k g rfl).trans hgg,rest⟩
theorem yX {w:World} {base base':Nat} {e:TypeId} {size:Nat} {v:Value} {n:Nat} {xs:List Value} (h:w.ownsRow base e size v n xs) (k:∀g,v.ownBlock=some g->base'<=g):w.ownsRow base' e size v n xs:=by
 refine ⟨h.1,?_⟩;rcases h.2 with hn|⟨g,cap,cur,rfl,hb,rest⟩
 ·exact .inl hn
 ·exact .inr ⟨g,cap,cur,rfl,k g rfl,rest⟩
theorem yO (w:World) (p i:Nat) (v:Value) (cur:Array Value) (t:TypeId) (fr:Nat × Nat) (h:w.heap[p]?=some (.cells cur t fr)):
  (w.setCell ⟨p,i,none⟩ v).heap[p]?=some (.cells (cur.setIfInBounds i v) t fr):=by
 simp [World.setCell,Array.getElem?_modify,h]
def Step (F F':Nat->Prop) (w w':World):Prop:=Ch w.heap.size F w w'/\∀k,F' k->F k\/w.heap.size<=k
theorem Step.refl (F:Nat->Prop) (w:World):Step F F w w:=⟨Ch.refl _ _ _,fun _ h=>.inl h⟩
theorem Step.trans {F F1 F2:Nat->Prop} {w w1 w2:World} (h:Step F F1 w w1) (k:Step F1 F2 w1 w2):Step F F2 w w2:=by
 refine ⟨h.1.trans (k.1.mono h.1.size (fun i hi hf=>?_)),fun i hi=>?_⟩
 ·rcases h.2 i hf with h|h
  ·exact h
  ·omega
 ·rcases k.2 i hi with k|k
  ·exact h.2 i k
  ·exact .inr (jP h.1.size k)
theorem Step.below {F F':Nat->Prop} {w w':World} (h:Step F F' w w') {B:Nat} (hB:B<=w.heap.size) (hF:∀k,F k->B<=k):Below B w w'/\∀k,F' k->B<=k:=
 ⟨(h.1.mono hB (fun _ _ e=>e)).below hF,fun k hk=>by rcases h.2 k hk with h|h;exact hF k h;omega⟩
theorem Own.lt2 {base g n cap:Nat} {w:World} {zs:List Int} (h:Own base w (.slice (some ⟨g,0,none⟩) n cap) zs):base<=g/\g<w.heap.size:=World.ownsRow.lt h g rfl
theorem Own.kept {base g n cap:Nat} {w w':World} {zs:List Int} (h:Own base w (.slice (some ⟨g,0,none⟩) n cap) zs) (k:w'.heap[g]?=w.heap[g]?):Own base w' (.slice (some ⟨g,0,none⟩) n cap) zs:=
 yQ h (fun x hx=>by simp [Value.ownBlock] at hx;rw [<-hx];exact k)
theorem Own.zero {base g n cap:Nat} {w:World} {zs:List Int} (h:Own base w (.slice (some ⟨g,0,none⟩) n cap) zs):Own 0 w (.slice (some ⟨g,0,none⟩) n cap) zs:=
 yX h (fun _ _=>jT _)
theorem JJ {B g N:Nat} {w:World} (h:w.ownsRow B 5 1 (.slice (some ⟨g,0,none⟩) N N) N (madeCells (Value.int .u8 0).cells (N*1)).toList):Own B w (.slice (some ⟨g,0,none⟩) N N) (List.replicate N 0):=by
 unfold Own;rw [show (Value.int .u8 0).cells= #[Value.int .u8 0] from rfl,toList_madeCells_one,Nat.mul_one] at h;rw [jK,List.map_replicate];exact h
theorem XC (n:Nat):Bys (List.replicate n 0):=fun z hz=>by rw [(List.mem_replicate.1 hz).2];omega
theorem Ch.set {w:World} {p:Nat} {F:Nat->Prop} (hp:F p) (i:Nat) (v:Value):Ch w.heap.size F w (w.setCell ⟨p,i,none⟩ v):=(Ch.refl _ F w).setCell (p:=⟨p,i,none⟩) (.inr hp) v
theorem yP (w:World) (a:Addr) (v:Value):(w.setCell a v).heap.size=w.heap.size:=by simp [World.setCell]
theorem Step.of {F:Nat->Prop} {w w':World} (h:Ch w.heap.size F w w'):Step F F w w':=⟨h,fun _ h=>.inl h⟩
theorem Step.ofB {F:Nat->Prop} {w w':World} (h:Below w.heap.size w w'):Step F F w w':=Step.of (Ch.of F h)
theorem Row.take' {w:World} {a:Option Addr} {cap:Nat} {zs:List Int} (h:Row w a cap zs) (k c:Nat) (hk:k<=zs.length) (hkc:k<=c) (hc:c<=cap):Row w a c (zs.take k):=by
 obtain ⟨h1,h2,h3,h4⟩:=h;refine ⟨fun z hz=>h1 z (jU hz),by rw [qG];omega,by omega,?_⟩;rcases h4 with h4|⟨b,off,ha,hcell⟩
 ·exact .inl (by rw [h4,List.take_nil])
 ·refine .inr ⟨b,off,ha,fun i hi=>?_⟩;rw [qG] at hi;rw [hcell i (by omega),jA,jA,xZ,if_pos (by omega)]
theorem row0 (w:World):Row w none 0 []:=⟨fun z hz=>(by cases hz),jB _,by simp [maxLen],.inl rfl⟩
def nouB (zs:List Int):Bool:=zs.all (fun z=>z==0)
theorem nouB_iff {zs:List Int}:nouB zs=true↔∀j,j<zs.length->zs.getD j 0=0:=by
 unfold nouB;rw [List.all_eq_true];constructor
 ·intro h j hj;have:=h (zs.getD j 0) (by rw [jA,jC hj];exact qB hj)
  simpa using this
 ·intro h z hz;obtain ⟨j,hj,rfl⟩:=xV hz;have:=h j hj;rw [jA,jC hj] at this
  simpa using this
theorem US {zs:List Int} {j:Nat} (hj:j<zs.length) (h:zs.getD j 0≠0):nouB zs=false:=by
 cases hn:nouB zs
 ·rfl
 ·exact absurd (nouB_iff.1 hn j hj) h
theorem XQ (b off cap n m:Nat) (zs:List Int) (w:World) (h:Row w (some ⟨b,off,none⟩) cap zs) (hn:zs.length=n) (hm0:m<=n) (V:Bool) (hV:nouB (zs.drop m)=V):
  Calls prog 199 #[.slice (some ⟨b,off,none⟩) n cap,.int .i64 m] w fun e w'=>e=.returned (.bool V)/\w=w':=by
 subst hn;have hm:=jP h.2.1 h.2.2.1;unfold maxLen at hm;have HCE:Hid (∀i,i<zs.length->w.cell? ⟨b,off+i,none⟩=some (.int .u8 (zs.getD i 0))):=h.cells
 have HN:Hid (∀i,i<zs.length->m<=i->zs.getD i 0≠0->V=false):=fun i hi hmi hx=>by
  rw [<-hV];exact US (j:=i-m) (by rw [qC];omega) (by rw [jA,qO,<-jA,show m+(i-m)=i by omega];exact hx)
 have HY:Hid ((∀i,i<zs.length->m<=i->zs.getD i 0=0)->V=true):=fun hh=>by
  rw [<-hV];refine nouB_iff.2 fun j hj=>?_
  rw [qC] at hj;rw [jA,qO,<-jA];exact hh _ (by omega) (by omega)
 clear hV h;go_enter func199,ntmps199
 go_wp2_with fail
 go_loop [5] (fun i=>∃k:Nat,m<=k/\k<=zs.length/\i=.int .i64 k/\Hid (∀j,j<k->m<=j->zs.getD j 0=0)) (fun i=>zs.length-(intOf i).toNat)
 case atStart=>exact ⟨m,jB _,hm0,rfl,fun j hj h=>by omega⟩
 case round=>
  obtain ⟨k,hmk,hk,rfl,HK⟩:=hrel;by_cases hlt:k<zs.length
  ·have hc:=HCE.out k hlt;obtain ⟨x,hx⟩:∃x,zs.getD k 0=x:=⟨_,rfl⟩;rw [hx] at hc;by_cases h0:x=0
   ·subst h0;have HX:Hid (zs.getD k 0=0):=hx;clear hx;go_wp2;go_round
    case rel=>exact ⟨k+1,by omega,by omega,by go_num,fun j hj h=>by
     by_cases e:j=k
     ·rw [e];exact HX.out
     ·exact HK.out j (by omega) h⟩
    case measure=>simp [intOf];omega
   ·have e:V=false:=HN.out k hlt hmk (by rw [hx];exact h0);have h0b:(x !=0)=true:=by simpa using h0
    subst e;clear hx h0;go_wp2;go_ret
    exact ⟨rfl,rfl⟩
  ·have e:V=true:=HY.out fun j hj h=>HK.out j (by omega) h
   subst e;go_wp2;go_ret
   exact ⟨rfl,rfl⟩
theorem copy_step {B k:Nat} {zs:List Int} {w wr w1:World} {v v':Value} {o:Obj} (hk:k<zs.length) (hB:B<=wr.heap.size)
  (hown:Own B wr v (zs.take k)) (hnx:Below B w wr)
  (hown':w1.ownsRow B 5 1 v' (k+1) ((zs.map (Value.int .u8)).take k++[.int .u8 (zs.getD k 0)])) (hgrow:(wr.alloc o).grownBy w1 v.ownBlock):
  Own B w1 v' (zs.take (k+1))/\Below B w w1:=by
 refine ⟨?_,(hnx.alloc hB o).grown hgrow (by simp;omega) (fun j hj=>hown.lt' j hj)⟩;unfold Own;have e:(zs.take k).length=k:=by simp;omega
 rw [vD zs k hk,jN,e,qI,List.map_take];exact hown'
theorem copy_any (a:Option Addr) (cap:Nat) (zs:List Int) (w:World) (h:Row w a cap zs) (hsz:zs.length<=140737488355328):
  Calls prog 234 #[.slice a zs.length cap] w fun e w'=>∃v,e=.returned v/\Own w.heap.size w' v zs/\Below w.heap.size w w':=by
 obtain ⟨i0,hi,hz0,hz1,hz2⟩:=info_parts info5;obtain ⟨hb,h2,hm',hz⟩:=h;unfold maxLen at hm';have HZ:Hid (zs=[]\/∃b off,a=some ⟨b,off,none⟩/\∀i,i<zs.length->w.cell? ⟨b,off+i,none⟩=some (.int .u8 (zs.getD i 0))):=hz;clear hb hz;go_enter func234,ntmps234
 go_wp2;go_loopw [3,4] (fun v i wr=>∃k:Nat,k<=zs.length/\i=.int .i64 k/\Own w.heap.size wr v (zs.take k)/\Below w.heap.size w wr) (fun _ i _=>zs.length-(intOf i).toNat)
 case atStart=>exact ⟨0,jT _,rfl,World.ownsRow_nil _ _ _ _,Below.refl _ _⟩
 case round=>
  obtain ⟨k,hk,rfl,hown,hnx⟩:=hrel;by_cases hlt:k<zs.length
  ·obtain ⟨b,off,rfl,hz⟩:=HZ.out.resolve_left (by intro e;rw [e] at hlt;exact absurd hlt (by simp));have hbl:b<w.heap.size:=block_lt_of_cell (hz k hlt);have hc:=(hnx.cell (p:=⟨b,off+k,none⟩) hbl).trans (hz k hlt);have hsz':=hnx.size;clear hz;obtain ⟨c,hcc⟩:∃c:Int,zs.getD k 0=c:=⟨_,rfl⟩;have htl:(zs.take k).length=k:=by simp;omega
   have HT:Hid ((zs.take k).length=k):=htl;clear htl;rw [hcc] at hc;have HC:Hid (zs.getD k 0=c):=hcc;clear hcc;go_wp2_with (at_builtin;refine wpList_append_own _ rfl _ _ 32 rfl w.heap.size 5 i0 (.int .u8 0) 1 1 underlying32 hi hz0 hz1 hz2 rfl (by decide) _ _ _ rfl (World.ownsRow.alloc hown _) ⟨wr.heap.size,0,none⟩ 1 1 [.int .u8 c] rfl rfl ?c1 ?c2 ?c3 ?c4 ?c5 ?_)
   case c1=>
    intro j u hj
    match j,hj with
    |0,hj=>simp at hj;subst hj;simp [Addr.add]
   case c2=>intro u hu;simp at hu;subst hu;rfl
   case c3=>have:=HT.out;unfold maxLen;omega
   case c4=>have:=HT.out;omega
   case c5=>simp;omega
   intro v' w1 hown' hgrow _;rw [<-HC.out] at hown';have R:=copy_step hlt hsz' hown hnx hown' hgrow;clear hown' hgrow hown hc;go_wp2;go_roundw
   case rel=>exact ⟨k+1,by omega,by go_num,R.1,R.2⟩
   case measure=>simp [intOf];omega
  ·have hkn:zs.take k=zs:=qR (by omega);rw [hkn] at hown;clear hkn;go_wp2;go_ret
   exact ⟨_,rfl,hown,hnx⟩
end Go.Proofs.YtaijfhadecennaaGreat.Oct
