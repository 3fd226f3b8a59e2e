/- Part of a proof. -/
import Derived.Test.YtjllhcifmfhkmaaGreatChecked
import Derived.WalkKit
import Derived.WalkLawsBesides
import Derived.WalkSpells
import Derived.Below
import Derived.BigQuiet
import Derived.Deep.QuietTactic
import Derived.Deep.MidRow
import Derived.Laws.CopyOwn
import Derived.OwnWalk
namespace Go.Proofs.YtjllhcifmfhkmaaGreat.Oct
open Go.RowKit
def Bys (zs:List Int):Prop:=∀z∈zs,0≤z∧z≤255
theorem Bys.at {zs:List Int} (h:Bys zs) (i:Nat):0≤zs.getD i 0∧zs.getD i 0≤255:=by
 by_cases hi:i<zs.length
 ·rw [List.getD_eq_getElem?_getD,List.getElem?_eq_getElem hi];exact h _ (List.getElem_mem hi)
 ·rw [List.getD_eq_getElem?_getD,List.getElem?_eq_none (by omega)];simp
def Row (w:World) (a:Option Addr) (cap:Nat) (zs:List Int):Prop:=
 Bys zs∧zs.length≤cap∧cap≤maxLen∧(zs=[]∨∃b off,a=some ⟨b,off,none⟩∧∀i,i<zs.length→w.cell? ⟨b,off+i,none⟩=some (.int .u8 (zs.getD i 0)))
theorem Row.below {w w':World} {a:Option Addr} {cap:Nat} {zs:List Int} (h:Row w a cap zs) (k:Below w.heap.size w w'):Row w' a cap zs:=by
 obtain ⟨h1,h2,h3,h4⟩:=h;refine ⟨h1,h2,h3,?_⟩;rcases h4 with h4|⟨b,off,ha,hc⟩
 ·exact .inl h4
 ·exact .inr ⟨b,off,ha,fun i hi=>(k.cell (p:=⟨b,off+i,none⟩) (block_lt_of_cell (hc i hi))).trans (hc i hi)⟩
theorem row_new (w:World) (zs:List Int) (t:TypeId) (hb:Bys zs) (hm:zs.length≤maxLen):
  Row (w.alloc (.cells (zs.map (Value.int .u8)).toArray t)) (some ⟨w.heap.size,0,none⟩) zs.length zs:=by
 refine ⟨hb,Nat.le_refl _,hm,.inr ⟨_,_,rfl,fun i hi=>?_⟩⟩;rw [World.cell?_alloc_at _ _ _ _ rfl];simp [hi]
def IsRow (k:IntKind) (w:World) (a:Option Addr) (len cap:Nat) (zs:List Int):Prop:=
 (a=none∧len=0∧cap=0∧zs=[])∨
 ∃x,a=some x∧len≤cap∧cap≤maxLen∧zs.length=cap∧(∀i,i<zs.length→w.cell? (x.add i)=some (.int k (zs.getD i 0)))∧∀n∈zs,(Lit.int k n).wf=true
theorem u8_wf {z:Int} (h:(Lit.int .u8 z).wf=true):0≤z∧z≤255:=by
 simp [Lit.wf,IntKind.min,IntKind.max,IntKind.signed,IntKind.bits] at h;omega
theorem IsRow.row {w:World} {a:Option Addr} {len cap:Nat} {zs:List Int} (h:IsRow .u8 w a len cap zs):
  ∃ys:List Int,len=ys.length∧Row w a cap ys:=by
 rcases h with ⟨rfl,rfl,rfl,rfl⟩|⟨x,rfl,hl,hm,hz,hcell,hwz⟩
 ·exact ⟨[],rfl,by intro z hz;simp at hz,Nat.le_refl _,by simp [maxLen],.inl rfl⟩
 ·refine ⟨zs.take len,by simp;omega,fun z hmem=>u8_wf (hwz z (List.mem_of_mem_take hmem)),by simp;omega,hm,?_⟩;by_cases h0:len=0
  ·exact .inl (by simp [h0])
  ·refine .inr ?_;obtain ⟨b,off,spot⟩:=x;have hc:=hcell 0 (by omega);have hspot:spot=none:=by simpa [Addr.add] using World.cell?_spot hc
   subst hspot;refine ⟨b,off,rfl,fun i hi=>?_⟩;simp at hi;have:=hcell i (by omega);have e:(⟨b,off,none⟩:Addr).add i=⟨b,off+i,none⟩:=by simp [Addr.add]
   rw [e] at this;rw [this];simp [show i<len by omega]
theorem Bys.app {xs ys:List Int} (hx:Bys xs) (hy:Bys ys):Bys (xs++ys):=by
 intro z hz;rcases List.mem_append.1 hz with h|h
 ·exact hx z h
 ·exact hy z h
theorem Row.some' {w:World} {a:Option Addr} {cap:Nat} {zs:List Int} (h:Row w a cap zs) (hl:0<zs.length):∃b off,a=some ⟨b,off,none⟩:=by
 rcases h.2.2.2 with h|⟨b,off,rfl,_⟩
 ·rw [h] at hl;exact absurd hl (by simp)
 ·exact ⟨b,off,rfl⟩
theorem Row.cells {w:World} {b off cap:Nat} {zs:List Int} (h:Row w (some ⟨b,off,none⟩) cap zs):∀i,i<zs.length→w.cell? ⟨b,off+i,none⟩=some (.int .u8 (zs.getD i 0)):=by
 intro i hi;rcases h.2.2.2 with h|⟨b',off',e,hc⟩
 ·rw [h] at hi;exact absurd hi (by simp)
 ·simp only [Option.some.injEq,Addr.mk.injEq,and_true] at e;obtain ⟨rfl,rfl⟩:=e;exact hc i hi
theorem info5:(Tryz.prog.info? 5).map (fun i=>(i.zero,i.size,i.bytes))=some (some (.int .u8 0),1,1):=by kernel_rfl
def Own (base:Nat) (w:World) (v:Value) (zs:List Int):Prop:=w.ownsRow base 5 1 v zs.length (zs.map (Value.int .u8))
theorem Own.lt' {base:Nat} {w:World} {v:Value} {zs:List Int} (h:Own base w v zs) (k:Nat) (hk:v.ownBlock=some k):base≤k:=(World.ownsRow.lt h k hk).1
theorem Own.row {base:Nat} {w:World} {v:Value} {zs:List Int} (h:Own base w v zs) (hb:Bys zs):∃a cap,v=.slice a zs.length cap∧Row w a cap zs:=by
 obtain ⟨_,⟨rfl,h0⟩|⟨g,cap,cur,rfl,hg,hc,hn,hm,hs,ht⟩⟩:=id h
 ·refine ⟨none,0,by rw [h0],hb,by omega,by simp [maxLen],.inl (List.eq_nil_of_length_eq_zero h0)⟩
 ·refine ⟨_,cap,rfl,hb,hn,hm,.inr ⟨g,0,rfl,fun i hi=>?_⟩⟩;have:=World.ownsRow.cellAt h i (by omega);rw [Nat.zero_add,this];simp [hi]
theorem Own.row' {base:Nat} {w:World} {a:Option Addr} {n cap:Nat} {zs:List Int} (h:Own base w (.slice a n cap) zs) (hb:Bys zs):n=zs.length∧Row w a cap zs:=by
 obtain ⟨a',cap',e,hr⟩:=h.row hb;simp only [Value.slice.injEq] at e;obtain ⟨rfl,rfl,rfl⟩:=e;exact ⟨rfl,hr⟩
theorem own_at {base:Nat} {w:World} {v:Value} {zs:List Int} (h:Own base w v zs) (j:Nat) (hj:j<zs.length):
  ∃g cap,v=.slice (some ⟨g,0,none⟩) zs.length cap∧base≤g∧w.cell? ⟨g,j,none⟩=some (.int .u8 (zs.getD j 0))∧w.frozen? ⟨g,j,none⟩=false∧
   ∀y:Int,Own base (w.setCell ⟨g,j,none⟩ (.int .u8 y)) (.slice (some ⟨g,0,none⟩) zs.length cap) (zs.set j y):=by
 have h':=h;obtain ⟨_,⟨rfl,h0⟩|⟨g,cap,cur,rfl,hg,hc,hn,hm,hs,ht⟩⟩:=h
 ·omega
 ·refine ⟨g,cap,rfl,hg,?_,World.ownsRow.frozenAt h' j,fun y=>?_⟩
  ·rw [World.ownsRow.cellAt h' j (by omega)];simp [hj]
  ·have:=World.ownsRow.stored h' j (.int .u8 y);unfold Own;rw [List.length_set,List.map_set];exact this.1
theorem own_at' {base g n cap:Nat} {w:World} {zs:List Int} (h:Own base w (.slice (some ⟨g,0,none⟩) n cap) zs) (j:Nat) (hj:j<zs.length):
  n=zs.length∧w.cell? ⟨g,j,none⟩=some (.int .u8 (zs.getD j 0))∧w.frozen? ⟨g,j,none⟩=false∧
   ∀y:Int,Own base (w.setCell ⟨g,j,none⟩ (.int .u8 y)) (.slice (some ⟨g,0,none⟩) n cap) (zs.set j y):=by
 obtain ⟨g',cap',e,_,h1,h2,h3⟩:=own_at h j hj;simp only [Value.slice.injEq,Option.some.injEq,Addr.mk.injEq,and_true] at e;obtain ⟨rfl,rfl,rfl⟩:=e;exact ⟨rfl,h1,h2,h3⟩
theorem take_snoc (zs:List Int) (k:Nat) (hk:k<zs.length):zs.take (k+1)=zs.take k++[zs.getD k 0]:=by
 rw [List.take_add_one,List.getElem?_eq_getElem hk,List.getD_eq_getElem?_getD,List.getElem?_eq_getElem hk];rfl
theorem bysOf {zs:List Int} (h:zs.all (fun z=>decide (0≤z∧z≤255))=true):Bys zs:=by
 intro z hz;have:=List.all_eq_true.1 h z hz
 simpa using this
theorem app_at (xs ys:List Int) (i:Nat):(xs++ys).getD i 0=if i<xs.length then xs.getD i 0 else ys.getD (i-xs.length) 0:=by
 simp only [List.getD_eq_getElem?_getD,List.getElem?_append];split<;>rfl
theorem eq_of_getD {xs ys:List Int} (hl:xs.length=ys.length) (h:∀i,i<xs.length→xs.getD i 0=ys.getD i 0):xs=ys:=by
 refine List.ext_getElem hl fun i h1 h2=>?_
 have:=h i h1;rw [List.getD_eq_getElem?_getD,List.getD_eq_getElem?_getD,List.getElem?_eq_getElem h1,List.getElem?_eq_getElem h2] at this;exact this
structure Ch (B:Nat) (F:Nat→Prop) (w w':World):Prop where
 os:w'.os=w.os
 tape:w'.tape=w.tape
 output:w'.output=w.output
 size:w.heap.size≤w'.heap.size
 block:∀k,k<B→¬F k→w'.heap[k]?=w.heap[k]?
theorem Ch.refl (B:Nat) (F:Nat→Prop) (w:World):Ch B F w w:=⟨rfl,rfl,rfl,Nat.le_refl _,fun _ _ _=>rfl⟩
theorem Ch.trans {B:Nat} {F:Nat→Prop} {a b c:World} (h:Ch B F a b) (k:Ch B F b c):Ch B F a c:=
 ⟨k.os.trans h.os,k.tape.trans h.tape,k.output.trans h.output,Nat.le_trans h.size k.size,fun i hi hf=>(k.block i hi hf).trans (h.block i hi hf)⟩
theorem Ch.mono {B B':Nat} {F F':Nat→Prop} {a b:World} (h:Ch B F a b) (hB:B'≤B) (hF:∀k,k<B'→F k→F' k):Ch B' F' a b:=
 ⟨h.os,h.tape,h.output,h.size,fun i hi hf=>h.block i (by omega) (fun e=>hf (hF i hi e))⟩
theorem Ch.drew {B:Nat} {F:Nat→Prop} {a b:World} (h:Ch B F a b):Ch B F a b.drew:=⟨h.os,h.tape,h.output,h.size,h.block⟩
theorem Ch.of {B:Nat} {a b:World} (F:Nat→Prop) (h:Below B a b):Ch B F a b:=⟨h.os,h.tape,h.output,h.size,fun i hi _=>h.block i hi⟩
theorem Ch.below {B:Nat} {F:Nat→Prop} {a b:World} (h:Ch B F a b) (hF:∀k,F k→B≤k):Below B a b:=⟨h.os,h.tape,h.output,h.size,fun i hi=>h.block i hi (fun e=>by have:=hF i e;omega)⟩
theorem Ch.alloc {B:Nat} {F:Nat→Prop} {a w:World} (h:Ch B F a w) (hB:B≤w.heap.size) (o:Obj):Ch B F a (w.alloc o):=
 h.trans (Ch.of F ((Below.refl B w).alloc hB o))
theorem Ch.setCell {B:Nat} {F:Nat→Prop} {a w:World} (h:Ch B F a w) {p:Addr} (hp:B≤p.block∨F p.block) (u:Value):Ch B F a (w.setCell p u):=
 h.trans ⟨rfl,rfl,rfl,by simp [World.setCell],fun k hk hf=>Below.heap_setCell _ _ _ _ (by rintro rfl;rcases hp with hp|hp;omega;exact hf hp)⟩
theorem Ch.setRow {B:Nat} {F:Nat→Prop} {a w:World} (h:Ch B F a w) {g:Nat} (hp:B≤g∨F g) (cs:Array Value):Ch B F a (w.setRow g cs):=
 h.trans ⟨rfl,rfl,rfl,by simp [World.setRow],fun k hk hf=>setRow_other w g k cs (by rintro rfl;rcases hp with hp|hp;omega;exact hf hp)⟩
theorem Ch.grown {B:Nat} {F:Nat→Prop} {a w w':World} {row:Option Nat} (h:Ch B F a w) (hg:w.grownBy w' row) (hB:B≤w.heap.size) (hr:∀k,row=some k→B≤k∨F k):Ch B F a w':=
 h.trans ⟨hg.os,hg.tape,hg.output,hg.size,fun k hk hf=>hg.block k (by omega) (fun e=>by rcases hr k e.symm with h|h;omega;exact hf h)⟩
theorem Ch.cell {B:Nat} {F:Nat→Prop} {w w':World} (h:Ch B F w w') {p:Addr} (hp:p.block<B) (hf:¬F p.block):w'.cell? p=w.cell? p:=World.cell?_of_block (w:=w) (h.block p.block hp hf)
theorem Ch.frozen {B:Nat} {F:Nat→Prop} {w w':World} (h:Ch B F w w') {p:Addr} (hp:p.block<B) (hf:¬F p.block):w'.frozen? p=w.frozen? p:=World.frozen?_of_block (w:=w) (h.block p.block hp hf)
theorem heap_lt {w:World} {k:Nat} {o:Obj} (h:w.heap[k]?=some o):k<w.heap.size:=(Array.getElem?_eq_some_iff.1 h).1
theorem owns_keep {w w':World} {base:Nat} {e:TypeId} {size:Nat} {v:Value} {n:Nat} {xs:List Value} (h:w.ownsRow base e size v n xs) (k:∀g,v.ownBlock=some g→w'.heap[g]?=w.heap[g]?):w'.ownsRow base e size v n xs:=by
 refine ⟨h.1,?_⟩;rcases h.2 with hn|⟨g,cap,cur,rfl,hb,hgg,rest⟩
 ·exact .inl hn
 ·exact .inr ⟨g,cap,cur,rfl,hb,(k g rfl).trans hgg,rest⟩
theorem owns_base {w:World} {base base':Nat} {e:TypeId} {size:Nat} {v:Value} {n:Nat} {xs:List Value} (h:w.ownsRow base e size v n xs) (k:∀g,v.ownBlock=some g→base'≤g):w.ownsRow base' e size v n xs:=by
 refine ⟨h.1,?_⟩;rcases h.2 with hn|⟨g,cap,cur,rfl,hb,rest⟩
 ·exact .inl hn
 ·exact .inr ⟨g,cap,cur,rfl,k g rfl,rest⟩
theorem setCell_heap (w:World) (p i:Nat) (v:Value) (cur:Array Value) (t:TypeId) (fr:Nat × Nat) (h:w.heap[p]?=some (.cells cur t fr)):
  (w.setCell ⟨p,i,none⟩ v).heap[p]?=some (.cells (cur.setIfInBounds i v) t fr):=by
 simp [World.setCell,Array.getElem?_modify,h]
def Step (F F':Nat→Prop) (w w':World):Prop:=Ch w.heap.size F w w'∧∀k,F' k→F k∨w.heap.size≤k
theorem Step.refl (F:Nat→Prop) (w:World):Step F F w w:=⟨Ch.refl _ _ _,fun _ h=>.inl h⟩
theorem Step.trans {F F1 F2:Nat→Prop} {w w1 w2:World} (h:Step F F1 w w1) (k:Step F1 F2 w1 w2):Step F F2 w w2:=by
 refine ⟨h.1.trans (k.1.mono h.1.size (fun i hi hf=>?_)),fun i hi=>?_⟩
 ·rcases h.2 i hf with h|h
  ·exact h
  ·omega
 ·rcases k.2 i hi with k|k
  ·exact h.2 i k
  ·exact .inr (Nat.le_trans h.1.size k)
theorem Step.below {F F':Nat→Prop} {w w':World} (h:Step F F' w w') {B:Nat} (hB:B≤w.heap.size) (hF:∀k,F k→B≤k):Below B w w'∧∀k,F' k→B≤k:=
 ⟨(h.1.mono hB (fun _ _ e=>e)).below hF,fun k hk=>by rcases h.2 k hk with h|h;exact hF k h;omega⟩
theorem Own.lt2 {base g n cap:Nat} {w:World} {zs:List Int} (h:Own base w (.slice (some ⟨g,0,none⟩) n cap) zs):base≤g∧g<w.heap.size:=World.ownsRow.lt h g rfl
theorem Own.kept {base g n cap:Nat} {w w':World} {zs:List Int} (h:Own base w (.slice (some ⟨g,0,none⟩) n cap) zs) (k:w'.heap[g]?=w.heap[g]?):Own base w' (.slice (some ⟨g,0,none⟩) n cap) zs:=
 owns_keep h (fun x hx=>by simp [Value.ownBlock] at hx;rw [←hx];exact k)
theorem Own.zero {base g n cap:Nat} {w:World} {zs:List Int} (h:Own base w (.slice (some ⟨g,0,none⟩) n cap) zs):Own 0 w (.slice (some ⟨g,0,none⟩) n cap) zs:=
 owns_base h (fun _ _=>Nat.zero_le _)
theorem made_own {B g N:Nat} {w:World} (h:w.ownsRow B 5 1 (.slice (some ⟨g,0,none⟩) N N) N (madeCells (Value.int .u8 0).cells (N*1)).toList):Own B w (.slice (some ⟨g,0,none⟩) N N) (List.replicate N 0):=by
 unfold Own;rw [show (Value.int .u8 0).cells= #[Value.int .u8 0] from rfl,toList_madeCells_one,Nat.mul_one] at h;rw [List.length_replicate,List.map_replicate];exact h
theorem bys_rep (n:Nat):Bys (List.replicate n 0):=fun z hz=>by rw [(List.mem_replicate.1 hz).2];omega
theorem Ch.set {w:World} {p:Nat} {F:Nat→Prop} (hp:F p) (i:Nat) (v:Value):Ch w.heap.size F w (w.setCell ⟨p,i,none⟩ v):=(Ch.refl _ F w).setCell (p:=⟨p,i,none⟩) (.inr hp) v
theorem size_setCell (w:World) (a:Addr) (v:Value):(w.setCell a v).heap.size=w.heap.size:=by simp [World.setCell]
theorem Step.of {F:Nat→Prop} {w w':World} (h:Ch w.heap.size F w w'):Step F F w w':=⟨h,fun _ h=>.inl h⟩
theorem Step.ofB {F:Nat→Prop} {w w':World} (h:Below w.heap.size w w'):Step F F w w':=Step.of (Ch.of F h)
theorem Row.take' {w:World} {a:Option Addr} {cap:Nat} {zs:List Int} (h:Row w a cap zs) (k c:Nat) (hk:k≤zs.length) (hkc:k≤c) (hc:c≤cap):Row w a c (zs.take k):=by
 obtain ⟨h1,h2,h3,h4⟩:=h;refine ⟨fun z hz=>h1 z (List.mem_of_mem_take hz),by rw [List.length_take];omega,by omega,?_⟩;rcases h4 with h4|⟨b,off,ha,hcell⟩
 ·exact .inl (by rw [h4,List.take_nil])
 ·refine .inr ⟨b,off,ha,fun i hi=>?_⟩;rw [List.length_take] at hi;rw [hcell i (by omega),List.getD_eq_getElem?_getD,List.getD_eq_getElem?_getD,List.getElem?_take,if_pos (by omega)]
theorem row0 (w:World):Row w none 0 []:=⟨fun z hz=>(by cases hz),Nat.le_refl _,by simp [maxLen],.inl rfl⟩
def nouB (zs:List Int):Bool:=zs.all (fun z=>z==0)
theorem nouB_iff {zs:List Int}:nouB zs=true↔∀j,j<zs.length→zs.getD j 0=0:=by
 unfold nouB;rw [List.all_eq_true];constructor
 ·intro h j hj;have:=h (zs.getD j 0) (by rw [List.getD_eq_getElem?_getD,List.getElem?_eq_getElem hj];exact List.getElem_mem hj)
  simpa using this
 ·intro h z hz;obtain ⟨j,hj,rfl⟩:=List.getElem_of_mem hz;have:=h j hj;rw [List.getD_eq_getElem?_getD,List.getElem?_eq_getElem hj] at this
  simpa using this
theorem nouB_no {zs:List Int} {j:Nat} (hj:j<zs.length) (h:zs.getD j 0≠0):nouB zs=false:=by
 cases hn:nouB zs
 ·rfl
 ·exact absurd (nouB_iff.1 hn j hj) h
set_option maxHeartbeats 1000000 in
theorem rnoughts_v (b off cap n m:Nat) (zs:List Int) (w:World) (h:Row w (some ⟨b,off,none⟩) cap zs) (hn:zs.length=n) (hm0:m≤n) (V:Bool) (hV:nouB (zs.drop m)=V):
  Calls Tryz.prog 97 #[.slice (some ⟨b,off,none⟩) n cap,.int .i64 m] w fun e w'=>e=.returned (.bool V)∧w=w':=by
 subst hn;have hm:=Nat.le_trans h.2.1 h.2.2.1;unfold maxLen at hm;have HCE:Hid (∀i,i<zs.length→w.cell? ⟨b,off+i,none⟩=some (.int .u8 (zs.getD i 0))):=h.cells
 have HN:Hid (∀i,i<zs.length→m≤i→zs.getD i 0≠0→V=false):=fun i hi hmi hx=>by
  rw [←hV];exact nouB_no (j:=i-m) (by rw [List.length_drop];omega) (by rw [List.getD_eq_getElem?_getD,List.getElem?_drop,←List.getD_eq_getElem?_getD,show m+(i-m)=i by omega];exact hx)
 have HY:Hid ((∀i,i<zs.length→m≤i→zs.getD i 0=0)→V=true):=fun hh=>by
  rw [←hV];refine nouB_iff.2 fun j hj=>?_
  rw [List.length_drop] at hj;rw [List.getD_eq_getElem?_getD,List.getElem?_drop,←List.getD_eq_getElem?_getD];exact hh _ (by omega) (by omega)
 clear hV h;go_enter Tryz.func97,Tryz.ntmps97
 go_wp2_with fail
 go_loop [5] (fun i=>∃k:Nat,m≤k∧k≤zs.length∧i=.int .i64 k∧Hid (∀j,j<k→m≤j→zs.getD j 0=0)) (fun i=>zs.length-(intOf i).toNat)
 case atStart=>exact ⟨m,Nat.le_refl _,hm0,rfl,fun j hj h=>by omega⟩
 case round=>
  obtain ⟨k,hmk,hk,rfl,HK⟩:=hrel;by_cases hlt:k<zs.length
  ·have hc:=HCE.out k hlt;obtain ⟨x,hx⟩:∃x,zs.getD k 0=x:=⟨_,rfl⟩;rw [hx] at hc;by_cases h0:x=0
   ·subst h0;have HX:Hid (zs.getD k 0=0):=hx;clear hx;go_wp2;go_round
    case rel=>exact ⟨k+1,by omega,by omega,by go_num,fun j hj h=>by
     by_cases e:j=k
     ·rw [e];exact HX.out
     ·exact HK.out j (by omega) h⟩
    case measure=>simp [intOf];omega
   ·have e:V=false:=HN.out k hlt hmk (by rw [hx];exact h0);have h0b:(x !=0)=true:=by simpa using h0
    subst e;clear hx h0;go_wp2;go_ret
    exact ⟨rfl,rfl⟩
  ·have e:V=true:=HY.out fun j hj h=>HK.out j (by omega) h
   subst e;go_wp2;go_ret
   exact ⟨rfl,rfl⟩
end Go.Proofs.YtjllhcifmfhkmaaGreat.Oct
