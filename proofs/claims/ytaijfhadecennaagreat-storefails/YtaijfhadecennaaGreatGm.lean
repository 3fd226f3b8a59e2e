/- Part of a proof. -/
import Derived.Test.YtaijfhadecennaaGreatGf
import Derived.Deep.WholeRow
import Derived.Test.YtaijfhadecennaaGreatGj
import Derived.Test.YtaijfhadecennaaGreatGb
import Derived.Maps.Own
import Derived.Maps.OwnOps
import Derived.Maps.OwnSet
import Derived.Maps.RangeWalk
import Derived.StillTailTactics
open Go.Proofs.Tryz
namespace Go.Proofs.YtaijfhadecennaaGreat.Oct
open Go.RowKit
theorem fill_off (off:Nat):∀(l:List Value) (k:Nat) (Z:Array Value),off+k+l.length<=Z.size->((l.zipIdx k).foldl (fun (a:Array Value) (x:Value × Nat)=>a.setIfInBounds (off+x.2) x.1) Z).toList=Z.toList.take (off+k)++l++Z.toList.drop (off+k+l.length)
 |[],k,Z,_=>by simp
 |v::r,k,Z,h=>by
  simp only [qN] at h;rw [List.zipIdx_cons,yI];rw [fill_off off r (k+1) _ (by simp;omega)];have hl:Z.toList.length=Z.size:=by simp
  simp only [Array.toList_setIfInBounds,qN];rw [<-yJ off k 1,xM,List.take_set_of_le (by omega),qX (by omega),List.drop_set_of_lt (by omega)];simp [yJ,Nat.add_comm 1]
theorem YZ (place:Nat->Option (Nat × Nat)) (Z:Array Value) (i off size:Nat) (v:Value) (rest:List (Nat × Value)) (hp:place i=some (off,size)) (hs:v.cells.size=size) (hz:off+size<=Z.size):
  Instr.fill place Z ((i,v)::rest)=Instr.fill place (Z.toList.take off++v.cells.toList++Z.toList.drop (off+size)).toArray rest:=by
 conv=>lhs;unfold Instr.fill
 rw [hp];show (if (v.cells.size≠size||off+v.cells.size>Z.size)=true then none else Instr.fill place _ rest)=_;rw [if_neg (by rw [hs];simp;omega)]
 congr 1
 apply Array.ext';rw [<-Array.foldl_toList,Array.toList_zipIdx];have:=fill_off off v.cells.toList 0 Z (by simp [hs];omega);rw [show (fun (a:Array Value) (x:Value × Nat)=>match x with|(c,j)=>a.setIfInBounds (off+j) c)=(fun (a:Array Value) (x:Value × Nat)=>a.setIfInBounds (off+x.2) x.1) from rfl,this];simp [hs]
theorem FN {P:Program} (t:TypeId) (f0 f1:Field) (z:Value) (s0 s1:Nat) (hu:P.underlying t=some (.struct #[f0,f1])) (hz:∀w,(zeroValue t).run P w=.ok z w) (h0:∀w,(sizeOf f0.type).run P w=.ok s0 w) (h1:∀w,(sizeOf f1.type).run P w=.ok s1 w)
  (o0:f0.offset=0) (o1:f1.offset=s0) (hzs:z.cells.size=s0+s1) (v0 v1:Value) (c0:v0.cells.size=s0) (c1:v1.cells.size=s1) (w:World):(Instr.build t #[(0,v0),(1,v1)]).run P w=.ok (.agg (v0.cells++v1.cells)) w:=by
 unfold Instr.build;simp only [Sem.run_bind,hz,Result.andThen_ok,run_underlying hu];simp [h0,h1,o0,o1];rw [YZ _ _ 0 0 s0 v0 _ (by simp) c0 (by omega),YZ _ _ 1 s0 s1 v1 _ (by simp) c1 (by simp;omega)];unfold Instr.fill;simp [c0];omega
theorem zM {t n b:Nat} (h:(prog.info? t).map (fun i=>(i.zero.map (·.cells.size),i.size,i.bytes))=some (some n,n,b)):∃z,(∀w,(zeroValue t).run prog w=.ok z w)/\(∀w,(sizeOf t).run prog w=.ok n w)/\z.cells.size=n/\(prog.info? t).map (·.size)=some n:=by
 cases hi:prog.info? t with
 |none=>rw [hi] at h;simp at h
 |some i=>
  rw [hi] at h;simp only [yN,jQ,xQ] at h;cases hz:i.zero with
  |none=>rw [hz] at h;simp at h
  |some z=>
   rw [hz] at h;simp only [yN,jQ] at h;exact ⟨z,fun w=>by simp [zeroValue,typeInfo,hi,hz],fun w=>by simp [sizeOf,typeInfo,hi,h.2.1],h.1,by simp [h.2.1]⟩
theorem size62:(prog.info? 109).map (·.size)=some 256:=by kernel_rfl
theorem inf62:(prog.info? 109).map (fun i=>(i.zero.map (·.cells.size),i.size,i.bytes))=some (some 256,256,256):=by kernel_rfl
theorem inf66:(prog.info? 173).map (fun i=>(i.zero.map (·.cells.size),i.size,i.bytes))=some (some 258,258,272):=by kernel_rfl
theorem inf23:(prog.info? 38).map (fun i=>(i.zero.map (·.cells.size),i.size,i.bytes))=some (some 1,1,8):=by kernel_rfl
theorem inf3:(prog.info? 3).map (fun i=>(i.zero.map (·.cells.size),i.size,i.bytes))=some (some 1,1,8):=by kernel_rfl
def LoadA (x:Value):Sem Value:=Instr.loadAt 109 x
theorem YL (x:Value):Instr.loadAt 109 x=LoadA x:=rfl
def BuildB (ps:Array (Nat × Value)):Sem Value:=Instr.build 111 ps
theorem buildB_eq (ps:Array (Nat × Value)):Instr.build 111 ps=BuildB ps:=rfl
def BuildC (ps:Array (Nat × Value)):Sem Value:=Instr.build 173 ps
theorem buildC_eq (ps:Array (Nat × Value)):Instr.build 173 ps=BuildC ps:=rfl
def AllocC:Sem Value:=Instr.alloc 173 true undef
theorem allocC_eq (old:Value):Instr.alloc 173 true old=AllocC:=by simp [AllocC,Instr.alloc]
def StoreC (a v:Value):Sem Unit:=Instr.storeAt 173 a v
theorem storeC_eq (a v:Value):Instr.storeAt 173 a v=StoreC a v:=rfl
def AllocW:Sem Value:=Instr.alloc 111 true undef
theorem allocW_eq (old:Value):Instr.alloc 111 true old=AllocW:=by simp [AllocW,Instr.alloc]
def StoreW (a v:Value):Sem Unit:=Instr.storeAt 111 a v
theorem storeW_eq (a v:Value):Instr.storeAt 111 a v=StoreW a v:=rfl
theorem load_a (w:World) (b o:Nat) (cs:List Value) (hl:cs.length=256) (hr:w.rangeAt b o cs):(LoadA (.pointer (some ⟨b,o,none⟩))).run prog w=.ok (.agg cs.toArray) w:=
 run_loadAt_mid w b o 109 cs _ hr underlying109 rfl (by rw [hl];exact size62)
set_option maxRecDepth 20000 in
theorem build_b (w:World) (pg:Nat) (zs:List Int) (hl:zs.length=256):(BuildB #[(0,.int .i64 pg),(1,.agg (zs.map (Value.int .u8)).toArray)]).run prog w=.ok (.agg (wcells (pg,zs)).toArray) w:=by
 obtain ⟨z,hz,hs,hc,_⟩:=zM info64;obtain ⟨_,_,h3,_⟩:=zM inf3;obtain ⟨_,_,h62,_⟩:=zM inf62;have:=FN 111 _ _ z 1 256 underlying111 hz h3 h62 rfl rfl hc (.int .i64 pg) (.agg (zs.map (Value.int .u8)).toArray) rfl (by show (zs.map (Value.int .u8)).toArray.size=256;simp [hl]) w;rw [show BuildB #[(0,.int .i64 pg),(1,.agg (zs.map (Value.int .u8)).toArray)]=Instr.build 111 #[(0,.int .i64 pg),(1,.agg (zs.map (Value.int .u8)).toArray)] from rfl,this]
 congr 2
 simp [Value.cells,wcells]
set_option maxRecDepth 20000 in
theorem build_c (w:World) (p:Nat) (cs:List Value) (hl:cs.length=257):(BuildC #[(0,.pointer (some ⟨p,0,none⟩)),(1,.agg cs.toArray)]).run prog w=.ok (.agg (.pointer (some ⟨p,0,none⟩)::cs).toArray) w:=by
 obtain ⟨z,hz,hs,hc,_⟩:=zM inf66;obtain ⟨_,_,h3,_⟩:=zM inf23;obtain ⟨_,_,h64,_⟩:=zM info64;have:=FN 173 _ _ z 1 257 underlying173 hz h3 h64 rfl rfl hc (.pointer (some ⟨p,0,none⟩)) (.agg cs.toArray) rfl (by show cs.toArray.size=257;simp [hl]) w;rw [show BuildC #[(0,.pointer (some ⟨p,0,none⟩)),(1,.agg cs.toArray)]=Instr.build 173 #[(0,.pointer (some ⟨p,0,none⟩)),(1,.agg cs.toArray)] from rfl,this]
 congr 2
 simp [Value.cells]
theorem alloc_c:∃z:Array Value,z.size=258/\∀w,AllocC.run prog w=.ok (.pointer (some ⟨w.heap.size,0,none⟩)) (w.alloc (.cells z 173)):=by
 obtain ⟨z,hz,_,hc,_⟩:=zM inf66;exact ⟨z.cells,hc,fun w=>by simp [AllocC,Instr.alloc,hz,newVar,newRow]⟩
theorem alloc_w:∃z:Array Value,z.size=257/\∀w,AllocW.run prog w=.ok (.pointer (some ⟨w.heap.size,0,none⟩)) (w.alloc (.cells z 111)):=by
 obtain ⟨z,hz,_,hc,_⟩:=zM info64;exact ⟨z.cells,hc,fun w=>by simp [AllocW,Instr.alloc,hz,newVar,newRow]⟩
theorem store_c (w:World) (z:Array Value) (cs:List Value) (hz:z.size=258) (hl:cs.length=258) (h1:∀v∈cs,v.oneCell'=true):(StoreC (.pointer (some ⟨w.heap.size,0,none⟩)) (.agg cs.toArray)).run prog (w.alloc (.cells z 173))=.ok () (w.alloc (.cells cs.toArray 173)):=by
 obtain ⟨_,_,_,_,hs⟩:=zM inf66;have:=run_storeVar_new (P:=prog) w 173 z cs.toArray (by rw [hs];simp [hl]) (by simp [hz,hl]) (all_oneCell_toArray h1);simp only [StoreC,Instr.storeAt,Instr.sureAddr,Sem.run_bind,Sem.run_pure,Result.andThen_ok,this]
theorem store_w (w:World) (z:Array Value) (cs:List Value) (hz:z.size=257) (hl:cs.length=257) (h1:∀v∈cs,v.oneCell'=true):(StoreW (.pointer (some ⟨w.heap.size,0,none⟩)) (.agg cs.toArray)).run prog (w.alloc (.cells z 111))=.ok () (w.alloc (.cells cs.toArray 111)):=by
 obtain ⟨_,_,_,_,hs⟩:=zM info64;have:=run_storeVar_new (P:=prog) w 111 z cs.toArray (by rw [hs];simp [hl]) (by simp [hz,hl]) (all_oneCell_toArray h1);simp only [StoreW,Instr.storeAt,Instr.sureAddr,Sem.run_bind,Sem.run_pure,Result.andThen_ok,this]
attribute [local go_sem ↓] YL buildB_eq buildC_eq allocC_eq storeC_eq
theorem opW_any {w:World} {p:Nat} {F:Nat->Prop} {D:Dv} (h:Dev w p F D) (hops:D.ops<=4611686018427387904) (hs:D.since.length<=1000000) (q pg:Nat) (b:List Int) (hpg:pg<D.n) (hb:b.length=256) (hby:Bys b) (hq:¬F q) (hq0:w.cell? ⟨q,0,none⟩=some (.pointer (some ⟨p,0,none⟩))) (hw:WriteAt w q 1 pg b):
  Calls prog 146 #[.pointer (some ⟨p,0,none⟩),.func (.func 147) #[.pointer (some ⟨q,0,none⟩)] #[],.func (.func 147) #[.pointer (some ⟨q,0,none⟩)] #[]] w fun e w'=>(∃b,e=.returned (.tuple #[.bool b,.int .i64 (saysD D)]))/\∃F',Dev w' p F' (writeD D pg b)/\Step F F' w w':=by
 have hF:=h.2.1;have hp:=h.p;have hbq:q<w.heap.size:=block_lt_of_cell hq0
 have hdo:∀(D1:Dv) w1,D1.n=D.n->D1.since=D.since->Dev w1 p F D1->Ch w.heap.size F w w1->w.heap.size+4<=w1.heap.size->Calls prog 147 #[.pointer (some ⟨q,0,none⟩)] w1 fun e w2=>e=.returned (.tuple #[])/\Ch w1.heap.size (fun k=>F k\/k=q) w1 w2/\∃F',Dev w2 p F' (wrD D1 pg b)/\Step F F' w1 w2:=
  fun D1 w1 e1 e2 h1 hc1 _=>(wdo_any h1 q pg b ((hc1.cell (p:=⟨q,0,none⟩) hbq hq).trans hq0) ⟨(hc1.cell (p:=⟨q,1,none⟩) hbq hq).trans hw.1,fun i hi=>(hc1.cell (p:=⟨q,1+1+i,none⟩) hbq hq).trans (hw.2 i hi)⟩ hb hby (by rw [e1];exact hpg) hq (by rw [e2];exact hs)).mono (fun e w2 h=>by
   obtain ⟨h1,F',h2,h3⟩:=h;exact ⟨h1,h3.1.mono (jB _) (fun _ _ e=>.inl e),F',h2,h3⟩)
 have fin:∀(D1:Dv) (w1 w2 w':World),Ch w.heap.size F w w1->w.heap.size+4<=w1.heap.size->(∃F',Dev w2 p F' (wrD D1 pg b)/\Step F F' w1 w2)->LocEq w.heap.size w2 w'->∃F',Dev w' p F' (wrD D1 pg b)/\Step F F' w w':=fun D1 w1 w2 w' hc1 hs1 hr hl=>by
  obtain ⟨F',h2,h3⟩:=hr;refine ⟨F',h2.loc hl (fun k hk=>?_),(hc1.trans (h3.1.mono (by omega) (fun _ _ e=>e))).trans (hl.ch F),fun k hk=>?_⟩
  ·rcases h3.2 k hk with e|e
   ·exact .inl (hF k e)
   ·exact .inr (by omega)
  ·rcases h3.2 k hk with e|e
   ·exact .inl e
   ·exact .inr (by omega)
 cases hd:D.dead with
 |true=>
  refine (gV h hd _ _ _ _).mono ?_;rintro e w' ⟨rfl,hb⟩;refine ⟨⟨false,by simp [saysD,hd]⟩,F,?_,Ch.of F hb,fun _ h=>.inl h⟩;rw [show writeD D pg b=D by simp [writeD,hd]];exact h.below hb
 |false=>
  by_cases hf:D.fuse=0
  ·refine (op_die h hd hf hops _ _ (by intro _ _;kernel_rfl) _ _ q hbq _ (fun w1 h1 hc1 hs1=>hdo (dieD D) w1 rfl rfl h1 hc1 hs1)).mono ?_;rintro e w' ⟨rfl,w1,w2,hd1,hc1,hs1,hr,_,hl⟩;rw [show writeD D pg b=wrD (dieD D) pg b by simp [writeD,hd,hf]];exact ⟨⟨false,by simp [saysD,hd,hf]⟩,fin _ w1 w2 w' hc1 hs1 hr hl⟩
  ·rcases kI h.1 with ho|ho|ho
   ·refine (kF h hd hf ho hops _ _ (by intro _ _;kernel_rfl) _ _ q hbq _ (fun w1 h1 hc1 hs1=>hdo (opD D) w1 rfl rfl h1 hc1 hs1)).mono ?_;rintro e w' ⟨rfl,w1,w2,hd1,hc1,hs1,hr,_,hl⟩;rw [show writeD D pg b=wrD (opD D) pg b by simp [writeD,hd,hf,ho]];exact ⟨⟨true,by simp [saysD,hd,hf,ho]⟩,fin _ w1 w2 w' hc1 hs1 hr hl⟩
   ·refine (gU h hd hf ho hops _ _ _ _).mono ?_;rintro e w' ⟨rfl,hd1,hc1⟩;rw [show writeD D pg b=opD D by simp [writeD,hd,hf,ho]];exact ⟨⟨false,by simp [saysD,hd,hf,ho]⟩,F,hd1,hc1,fun _ h=>.inl h⟩
   ·refine (kE h hd hf ho hops _ _ (by intro _ _;kernel_rfl) _ _ q hbq _ (fun w1 h1 hc1 hs1=>hdo (opD D) w1 rfl rfl h1 hc1 hs1)).mono ?_;rintro e w' ⟨rfl,w1,w2,hd1,hc1,hs1,hr,_,hl⟩;rw [show writeD D pg b=wrD (opD D) pg b by simp [writeD,hd,hf,ho]];exact ⟨⟨true,by simp [saysD,hd,hf,ho]⟩,fin _ w1 w2 w' hc1 hs1 hr hl⟩
theorem vK {w:World} {b o cap:Nat} {zs:List Int} (h:Row w (some ⟨b,o,none⟩) cap zs):w.rangeAt b o (zs.map (Value.int .u8)):=by
 intro j v hj;have:=QS h j v hj
 rwa [Addr.add_mid] at this
set_option maxHeartbeats 1000000 in
theorem KV {w:World} {p:Nat} {F:Nat->Prop} {D:Dv} (h:Dev w p F D) (hops:D.ops<=4611686018427387904) (hs:D.since.length<=1000000) (pg:Nat) (hpg:pg<D.n) (ad:Option Addr) (cap:Nat) (b:List Int) (hr:Row w ad cap b) (hb:b.length=256):
  Calls prog 96 #[.pointer (some ⟨p,0,none⟩),.int .i64 pg,.slice ad 256 cap] w fun e w'=>e=.returned (.int .i64 (saysD D))/\∃F',Dev w' p F' (writeD D pg b)/\Step F F' w w':=by
 have hm:=made_any h;have hh:=has_any h pg;rw [show hasB D pg=true by simp [hasB];omega] at hh;have hF:=h.2.1;have hby:=hr.1;obtain ⟨rb,ro,rfl⟩:=hr.some' (by omega);have rA:=load_a w rb ro (b.map (Value.int .u8)) (by simp [hb]) (vK hr);have rT:(Instr.arrayAt 109 (.slice (some ⟨rb,ro,none⟩) 256 cap)).run prog w=.ok (.pointer (some ⟨rb,ro,none⟩)) w:=by simp [Instr.arrayAt,run_underlying underlying109]
 have rB:=build_b w pg b hb;have hwl:=zU (x:=(pg,b)) hb;obtain ⟨cs,hcs⟩:∃cs,wcells (pg,b)=cs:=⟨_,rfl⟩;rw [hcs] at rB hwl;have rC:=build_c w p cs hwl;obtain ⟨z,hz,rD⟩:=alloc_c;have rD':=rD w
 have h1:∀v∈(Value.pointer (some ⟨p,0,none⟩)::cs),v.oneCell'=true:=by
  intro v hv;rcases List.mem_cons.1 hv with rfl|hv
  ·rfl
  ·rw [<-hcs] at hv;exact ZE _ v hv
 have rE:=store_c w z (.pointer (some ⟨p,0,none⟩)::cs) hz (by simp [hwl]) h1;obtain ⟨bs,hbs⟩:∃bs,(b.map (Value.int .u8)).toArray=bs:=⟨_,rfl⟩;rw [hbs] at rA rB;obtain ⟨ca,hca⟩:∃ca,cs.toArray=ca:=⟨_,rfl⟩;rw [hca] at rB rC;obtain ⟨ds,hds⟩:∃ds,(Value.pointer (some ⟨p,0,none⟩)::cs).toArray=ds:=⟨_,rfl⟩;rw [hds] at rC rE;have hb0:Below w.heap.size w (w.alloc (.cells ds 173)):=(Below.refl _ w).alloc (jB _) _;have h0:=h.below hb0
 have hrange:(w.alloc (.cells ds 173)).rangeAt w.heap.size 0 (.pointer (some ⟨p,0,none⟩)::cs):=by
  intro j v hj;rw [qT,cell_of_row _ _ j ds _ (0,0) (heap_alloc_new w _),<-hds]
  simpa using hj
 have hwat:WriteAt (w.alloc (.cells ds 173)) w.heap.size 1 pg b:=by
  refine WriteAt.of_range hb ?_;rw [hcs];intro j v hj;have:=hrange (j+1) v (by simpa using hj)
  rwa [show 0+(j+1)=1+j by omega] at this
 have ho:=opW_any h0 hops hs w.heap.size pg b hpg hb hby (fun e=>by have:=hF _ e;omega) (hrange 0 _ rfl) hwat;have hmk:=mkf;have HB0:Hid (Below w.heap.size w (w.alloc (.cells ds 173))):=hb0;clear h h0 hF hb0 hrange hwat hcs hwl rD hz h1 hbs hca hds hr hb;go_enter func96,ntmps96
 go_wp2_with (first|(go_at_call 69;refine hm.mono ?_;rintro e w' ⟨rfl,rfl⟩)|(go_at_call 145;refine hh.mono ?_;rintro e w' ⟨rfl,rfl⟩))
 refine ho.mono ?_;rintro e w2 ⟨⟨i,rfl⟩,F',hd,hst⟩;have HD:Hid (Dev w2 p F' (writeD D pg b)):=hd;have HS:Hid (Step F F' w w2):=⟨(Ch.of F HB0.out).trans (hst.1.mono (by simp) (fun _ _ e=>e)),fun k hk=>by rcases hst.2 k hk with e|e;exact .inl e;exact .inr (by simp at e;omega)⟩;clear hd hst hm hh ho;go_wp2;go_ret
 exact ⟨rfl,F',HD.out,HS.out⟩
end Go.Proofs.YtaijfhadecennaaGreat.Oct
namespace Go.Proofs.YtaijfhadecennaaGreat.Oct
open Go.RowKit
def fl (f:Nat->Int) (k:Nat):List Int:=(List.range 256).map fun i=>if i<k then f i else 0
end Go.Proofs.YtaijfhadecennaaGreat.Oct
namespace Go.Proofs.YtaijfhadecennaaGreat.Oct
open Go.RowKit
open Go.Maps (Keyed int_keyed keyOf_int_mk)
structure Fr where
 page:Nat
 b:List Int
 dirty:Bool
 pins:Nat
def fr0:Fr:=⟨0,List.replicate 256 0,false,0⟩
def Fr.ok (f:Fr):Prop:=f.b.length=256/\Bys f.b
theorem fr0_ok:fr0.ok:=⟨jK,XC 256⟩
def frC (f:Fr) (o n:Nat):List Value:=.int .i64 f.page::(f.b.map (Value.int .u8)++[.bool f.dirty,.int .i64 f.pins,.pointer (some ⟨o,0,none⟩),.pointer (some ⟨n,0,none⟩)])
theorem frC_len {f:Fr} (h:f.ok) (o n:Nat):(frC f o n).length=261:=by simp [frC,h.1]
theorem frC_at {f:Fr} (h:f.ok) (o n:Nat):
  (frC f o n)[0]?=some (.int .i64 f.page)/\(frC f o n)[257]?=some (.bool f.dirty)/\(frC f o n)[258]?=some (.int .i64 f.pins)/\(frC f o n)[259]?=some (.pointer (some ⟨o,0,none⟩))/\(frC f o n)[260]?=some (.pointer (some ⟨n,0,none⟩))/\
  ∀i,i<256->(frC f o n)[1+i]?=some (.int .u8 (f.b.getD i 0)):=by
 have hl:=h.1;refine ⟨rfl,?_,?_,?_,?_,fun i hi=>?_⟩
 iterate 4 (unfold frC;rw [qK,qY (by simp [hl])];simp [hl])
 unfold frC;rw [Nat.add_comm,qK,qP (by simp [hl];omega),qH,jC (by omega),jA,jC (by omega)];rfl
theorem set_dirty {f:Fr} (h:f.ok) (o n:Nat) (d:Bool):(frC f o n).set 257 (.bool d)=frC {f with dirty:=d} o n:=by
 unfold frC;rw [jI,xH _ _ (by simp [h.1])];simp [h.1]
theorem set_pins {f:Fr} (h:f.ok) (o n:Nat) (d:Nat):(frC f o n).set 258 (.int .i64 d)=frC {f with pins:=d} o n:=by
 unfold frC;rw [jI,xH _ _ (by simp [h.1])];simp [h.1]
theorem vI {f:Fr} (h:f.ok) (o n:Nat) (d:Nat):(frC f o n).set 259 (.pointer (some ⟨d,0,none⟩))=frC f d n:=by
 unfold frC;rw [jI,xH _ _ (by simp [h.1])];simp [h.1]
theorem fJ {f:Fr} (h:f.ok) (o n:Nat) (d:Nat):(frC f o n).set 260 (.pointer (some ⟨d,0,none⟩))=frC f o d:=by
 unfold frC;rw [jI,xH _ _ (by simp [h.1])];simp [h.1]
theorem set_bytes {f:Fr} (h:f.ok) (o n:Nat) (b:List Int):(frC f o n).take 1++b.map (Value.int .u8)++(frC f o n).drop 257=frC {f with b:=b} o n:=by
 have e:(frC f o n).drop 257=[.bool f.dirty,.int .i64 f.pins,.pointer (some ⟨o,0,none⟩),.pointer (some ⟨n,0,none⟩)]:=by
  unfold frC;rw [List.drop_succ_cons,List.drop_append_of_le_length (by simp [h.1])];simp [h.1]
 rw [e];simp [frC]
def Node (w:World) (g:Nat) (f:Fr) (o n:Nat):Prop:=w.heap[g]?=some (.cells (frC f o n).toArray 118 (0,0))
theorem Node.at {w:World} {g:Nat} {f:Fr} {o n:Nat} (h:Node w g f o n) (k:f.ok):
  w.cell? ⟨g,0,none⟩=some (.int .i64 f.page)/\w.cell? ⟨g,257,none⟩=some (.bool f.dirty)/\w.cell? ⟨g,258,none⟩=some (.int .i64 f.pins)/\w.cell? ⟨g,259,none⟩=some (.pointer (some ⟨o,0,none⟩))/\w.cell? ⟨g,260,none⟩=some (.pointer (some ⟨n,0,none⟩))/\∀i,w.frozen? ⟨g,i,none⟩=false:=by
 obtain ⟨a0,a1,a2,a3,a4,_⟩:=frC_at k o n;unfold Node at h;refine ⟨?_,?_,?_,?_,?_,fun i=>?_⟩
 iterate 5 (rw [cell_of_row w g _ _ _ (0,0) h];simpa)
 unfold World.frozen?;rw [h];simp
theorem Node.row {w:World} {g:Nat} {f:Fr} {o n:Nat} (h:Node w g f o n) (k:f.ok):Row w (some ⟨g,1,none⟩) 256 f.b:=by
 obtain ⟨_,_,_,_,_,a5⟩:=frC_at k o n;refine ⟨k.2,by rw [k.1];exact jB _,by simp [maxLen],.inr ⟨g,1,rfl,fun i hi=>?_⟩⟩;rw [k.1] at hi;rw [cell_of_row w g _ _ _ (0,0) h]
 simpa using a5 i hi
theorem Node.set {w:World} {g:Nat} {f:Fr} {o n:Nat} (h:Node w g f o n) (i:Nat) (v:Value):(w.setCell ⟨g,i,none⟩ v).heap[g]?=some (.cells ((frC f o n).set i v).toArray 118 (0,0)):=by
 rw [yO w g i v _ _ _ h];simp
theorem Node.keep {w w':World} {g:Nat} {f:Fr} {o n:Nat} (h:Node w g f o n) (k:w'.heap[g]?=w.heap[g]?):Node w' g f o n:=k.trans h
def ptrE:Value->Option (DataW Unit × List MemPlace)
 | .pointer none=>some (.lit (.bool false),[])
 | .pointer (some a)=>if a.off=0/\a.spot=none then some (.lit (.int .i64 a.block),[]) else none
 |_=>none
def mkP:Option Nat->Value
 |none=>.pointer none
 |some g=>.pointer (some ⟨g,0,none⟩)
theorem VY {v:Value} {y:DataW Unit × List MemPlace} (h:ptrE v=some y):∃c,v=mkP c/\y=((match c with|none=>.lit (.bool false)|some g=>.lit (.int .i64 g)),[]):=by
 unfold ptrE at h;split at h
 ·simp at h;exact ⟨none,rfl,h.symm⟩
 ·split at h
  ·rename_i a hc
   obtain ⟨b,o,s⟩:=a;simp only at hc;obtain ⟨rfl,rfl⟩:=hc;simp at h;exact ⟨some b,rfl,h.symm⟩
  ·cases h
 ·cases h
def findP (ps:List (Nat × Nat)) (k:Int):Option Nat:=(ps.find? (fun x=>decide ((x.1:Int)=k))).map (·.2)
def lkD (c:Option Nat):DataW Unit:=match c with|none=>.lit (.bool false)|some g=>.lit (.int .i64 g)
theorem lkD_inj {a b:Option Nat} (h:lkD a=lkD b):a=b:=by
 cases a<;>cases b<;>simp [lkD] at h ⊢
 omega
def Held (w:World) (m:Nat) (ps:List (Nat × Nat)):Prop:=
 (ps.map (·.1)).Nodup/\(∀x∈ps,x.1<=1000000)/\∃D:DataW Unit,w.ownsMap prog 3 ptrE m ps.length D/\(∀k:Int,D.atKey (.int .i64 k) (.lit (.bool false))=lkD (findP ps k))/\(∀k:Int,Maps.has D (.int .i64 k)=(findP ps k).isSome)/\Maps.size D=ps.length
theorem lawK:Keyed prog 3:=int_keyed underlying3
theorem zeroP (w:World):(zeroValue 116).run prog w=.ok (.pointer none) w:=by kernel_rfl
theorem owns_same {w w':World} {m n:Nat} {D:DataW Unit} (h:w.ownsMap prog 3 ptrE m n D) (k:w'.heap[m]?=w.heap[m]?):w'.ownsMap prog 3 ptrE m n D:=by
 obtain ⟨es,clock,hb,rest⟩:=h;exact ⟨es,clock,k.trans hb,rest⟩
theorem owns_low {w:World} {m n:Nat} {D:DataW Unit} (h:w.ownsMap prog 3 ptrE m n D) (n':Nat) (hn:Maps.size D<=n'):w.ownsMap prog 3 ptrE m n' D:=by
 obtain ⟨es,clock,hb,F,hs,rfl⟩:=h;refine ⟨es,clock,hb,F,?_,rfl⟩
 simpa [Maps.size,length_sorted] using hn
theorem Held.keep {w w':World} {m:Nat} {ps:List (Nat × Nat)} (h:Held w m ps) (k:w'.heap[m]?=w.heap[m]?):Held w' m ps:=by
 obtain ⟨h1,h1',D,h2,rest⟩:=h;exact ⟨h1,h1',D,owns_same h2 k,rest⟩
theorem Held.lt {w:World} {m:Nat} {ps:List (Nat × Nat)} (h:Held w m ps):m<w.heap.size:=by
 obtain ⟨_,_,D,h2,_⟩:=h;exact h2.lt
theorem Held.look {w:World} {m:Nat} {ps:List (Nat × Nat)} (h:Held w m ps) (k:Int) (hk:(Lit.int .i64 k).wf=true):(Instr.lookup 119 (.map (some m)) (.int .i64 k) false).run prog w=.ok (mkP (findP ps k)) w:=by
 obtain ⟨_,_,D,h2,h3,_⟩:=h;obtain ⟨v,q,hrun,hv⟩:=h2.lookup lawK underlying119 (zeroP w) (by rfl) (keyOf_int_mk underlying3 hk);obtain ⟨c,rfl,hc⟩:=VY hv;simp only [xQ] at hc;rw [h3] at hc;have:findP ps k=c:=lkD_inj (hc.1.trans (by cases c<;>rfl));rw [this];exact hrun
theorem Held.len {w:World} {m:Nat} {ps:List (Nat × Nat)} (h:Held w m ps) (ty:TypeId):(Builtin.len_ #[119] ty #[.map (some m)]).run prog w=.ok (.int .i64 ps.length) w:=by
 obtain ⟨_,_,D,h2,_,_,h5⟩:=h;rw [<-h5];exact h2.len underlying119 ty
theorem fY (ps:List (Nat × Nat)) (x:Nat × Nat) (hx:findP ps x.1=none) (k:Int):findP (ps++[x]) k=if k=x.1 then some x.2 else findP ps k:=by
 unfold findP at*;rw [List.find?_append];by_cases hk:k=x.1
 ·subst hk;simp at hx;rw [List.find?_eq_none.2 (by simpa using hx)];simp
 ·have hk':¬(x.1:Int)=k:=fun e=>hk e.symm
  simp only [if_neg hk];cases ps.find? (fun x=>decide ((x.1:Int)=k)) with
  |none=>simp [hk']
  |some y=>simp
theorem uS (ps:List (Nat × Nat)) (x:Nat) (k:Int):findP (ps.filter (fun y=>decide (y.1≠x))) k=if k=x then none else findP ps k:=by
 unfold findP
 induction ps with
 |nil=>simp
 |cons y r ih=>
  by_cases h:y.1=x
  ·simp only [List.filter_cons,h,ne_eq,not_true_eq_false,decide_false,yC,if_false,ih];by_cases hk:k=x
   ·simp [hk]
   ·simp only [if_neg hk,List.find?_cons,h];rw [jH (fun e=>hk e.symm)]
  ·simp only [List.filter_cons,ne_eq,h,not_false_eq_true,decide_true,if_true,List.find?_cons];by_cases hy:(y.1:Int)=k
   ·have:¬k=x:=by omega
    simp [hy,this]
   ·simp only [hy,decide_false];exact ih
theorem XY {ps:List (Nat × Nat)} {k:Int} {g:Nat} (h:findP ps k=some g):∃pg:Nat,k=pg/\(pg,g)∈ps:=by
 unfold findP at h;cases hf:ps.find? (fun x=>decide ((x.1:Int)=k)) with
 |none=>rw [hf] at h;cases h
 |some y=>
  rw [hf] at h;simp at h;have:=List.find?_some hf;simp at this;exact ⟨y.1,this.symm,by rw [<-h];exact List.mem_of_find?_eq_some hf⟩
theorem XZ {ps:List (Nat × Nat)} {k:Int} (h:findP ps k=none):∀x∈ps,(x.1:Int)≠k:=by
 unfold findP at h
 simpa using h
theorem QP {ps:List (Nat × Nat)} (hn:(ps.map (·.1)).Nodup) {x:Nat × Nat} (hx:x∈ps):findP ps x.1=some x.2:=by
 induction ps with
 |nil=>simp at hx
 |cons y r ih=>
  simp only [qQ,xK] at hn;unfold findP at*;rcases List.mem_cons.1 hx with rfl|hx
  ·simp
  ·have hne:¬((y.1:Int)=(x.1:Int)):=fun e=>hn.1 (by rw [show y.1=x.1 by omega];exact xL hx)
   rw [List.find?_cons,jH hne];exact ih hn.2 hx
theorem wfN {n:Nat} (h:n<=1000000):(Lit.int .i64 (n:Int)).wf=true:=by
 simp [Lit.wf,IntKind.min,IntKind.max,IntKind.signed,IntKind.bits];omega
theorem litNe {a b:Int} (h:a≠b):(Lit.int .i64 a)≠Lit.int .i64 b:=fun e=>h (by simpa using e)
theorem Held.put {w:World} {m:Nat} {ps:List (Nat × Nat)} (h:Held w m ps) (pg g:Nat) (hp:pg<=1000000) (hl:ps.length<=1000000) (hx:findP ps pg=none):
  ∃w',(Instr.mapUpdate 119 (.map (some m)) (.int .i64 pg) (.pointer (some ⟨g,0,none⟩))).run prog w=.ok () w'/\Held w' m (ps++[(pg,g)])/\w.mapTurned w' m:=by
 obtain ⟨h1,h1',D,h2,h3,h4,h5⟩:=h;obtain ⟨w',hrun,ho,ht⟩:=h2.store lawK underlying119 (by unfold maxLen;omega) (keyOf_int_mk underlying3 (wfN hp)) (val:=.pointer (some ⟨g,0,none⟩)) (d:=.lit (.int .i64 g)) (ps:=[]) (by simp [ptrE])
 have hs:Maps.size (D.put (.int .i64 pg) (.lit (.int .i64 g)))=ps.length+1:=by
  rw [Maps.size_put (h2.tidy lawK),h4,hx,h5];simp
 refine ⟨w',hrun,⟨?_,?_,D.put (.int .i64 pg) (.lit (.int .i64 g)),?_,fun k=>?_,fun k=>?_,?_⟩,ht⟩
 ·simp only [qI,qQ,xR];refine List.nodup_append.2 ⟨h1,by simp,fun a ha b hb=>?_⟩;simp at hb;subst hb;obtain ⟨x,hx',rfl⟩:=List.mem_map.1 ha;have:=XZ hx x hx';omega
 ·intro x hx';rcases List.mem_append.1 hx' with hx'|hx'
  ·exact h1' x hx'
  ·simp at hx';subst hx';exact hp
 ·simpa using ho
 ·rw [fY _ (pg,g) hx];by_cases hk:k=pg
  ·subst hk;rw [Maps.atKey_put_same (k:=.int .i64 (pg:Int)) h2.isMap trivial];simp [lkD]
  ·rw [Maps.atKey_put_other (litNe hk),h3];simp [hk]
 ·rw [fY _ (pg,g) hx];by_cases hk:k=pg
  ·subst hk;rw [Maps.has_put_same (k:=.int .i64 (pg:Int)) h2.isMap trivial];simp
  ·rw [Maps.has_put_other (litNe hk),h4];simp [hk]
 ·simpa using hs
theorem Held.del {w:World} {m:Nat} {ps:List (Nat × Nat)} (h:Held w m ps) (pg:Nat) (hp:pg<=1000000) (ty:TypeId):
  ∃w',(Builtin.delete_ #[119,3] ty #[.map (some m),.int .i64 pg]).run prog w=.ok (.tuple #[]) w'/\Held w' m (ps.filter (fun y=>decide (y.1≠pg)))/\w.mapTurned w' m:=by
 obtain ⟨h1,h1',D,h2,h3,h4,h5⟩:=h;obtain ⟨w',hrun,ho,ht⟩:=h2.drop lawK underlying119 (keyOf_int_mk underlying3 (wfN hp)) ty
 have hs:Maps.size (D.del (.int .i64 pg))=(ps.filter (fun y=>decide (y.1≠pg))).length:=by
  have e:=Maps.size_del (k:=.int .i64 pg) (h2.tidy lawK);rw [h4,h5] at e
  have e2:(ps.filter (fun y=>decide (y.1≠pg))).length+(if (findP ps pg).isSome=true then 1 else 0)=ps.length:=by
   clear h1' D h2 h3 h4 h5 hrun ho ht e
   induction ps with
   |nil=>simp [findP]
   |cons y r ih=>
    simp only [qQ,xK] at h1;have ih:=ih h1.2;by_cases hy:y.1=pg
    ·have hn:findP r pg=none:=by
      unfold findP;simp only [Option.map_eq_none_iff,List.find?_eq_none,jR];intro x hx e;exact h1.1 (by rw [hy,<-show x.1=pg by omega];exact xL hx)
     rw [hn] at ih;have hs:findP (y::r) pg=some y.2:=by unfold findP;simp [hy]
     rw [hs];simp [hy] at ih ⊢;exact ih
    ·have hs:findP (y::r) pg=findP r pg:=by
      unfold findP;rw [List.find?_cons,jH (by omega)]
     rw [hs];simp [hy];simp at ih;omega
  omega
 refine ⟨w',hrun,⟨?_,?_,D.del (.int .i64 pg),owns_low ho _ (by omega),fun k=>?_,fun k=>?_,hs⟩,ht⟩
 ·exact h1.sublist (List.Sublist.map _ List.filter_sublist)
 ·exact fun x hx=>h1' x (List.mem_filter.1 hx).1
 ·rw [uS];by_cases hk:k=pg
  ·subst hk;rw [Maps.atKey_del_same];simp [lkD]
  ·rw [Maps.atKey_del_other (litNe hk),h3,if_neg hk]
 ·rw [uS];by_cases hk:k=pg
  ·subst hk;rw [Maps.has_del_same];simp
  ·rw [Maps.has_del_other (litNe hk),h4,if_neg hk]
theorem held_new (w:World):Held (w.alloc (.map #[] 0)) w.heap.size []:=
 ⟨by simp,by simp,.map [],World.ownsMap_made w prog 3 ptrE,fun k=>by simp [findP,lkD,DataW.atKey],fun k=>by simp [Maps.has,findP],by simp [Maps.size]⟩
theorem UG {w w':World} {m k:Nat} (h:w.mapTurned w' m) (hk:k≠m) (hl:k<w.heap.size):w'.heap[k]?=w.heap[k]?:=
 h.grown.block k hl (by simp [hk])
end Go.Proofs.YtaijfhadecennaaGreat.Oct
