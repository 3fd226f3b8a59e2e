/- Part of a proof. -/
import Derived.Test.YtaijfhadecennaaGreatGb
import Derived.Deep.RegionLaw
import Derived.Deep.DrawnRows
open Go.Proofs.Tryz
set_option maxHeartbeats 4000000
namespace Go.Proofs.YtaijfhadecennaaGreat.Oct
open Go.RowKit
theorem JM (w:World) (g:Nat) (cs:Array Value) (a:Addr) (h:a.block≠g):(w.setRow g cs).cell? a=w.cell? a:=World.cell?_of_block (w:=w) (setRow_other w g a.block cs h)
theorem uR (w:World) (g:Nat) (cs:Array Value) (a:Addr) (h:a.block≠g):(w.setRow g cs).frozen? a=w.frozen? a:=World.frozen?_of_block (w:=w) (setRow_other w g a.block cs h)
theorem lay'_all (zs cs:List Int) (h:zs.length=cs.length):lay' zs 0 cs=cs:=by
 simp [lay',h]
theorem DevC.settled {w w1:World} {p gN gL cN cL:Nat} {vS vO:Value} {f:Int} {D:Dv} (h:DevC w p gN gL cN cL vS vO f D) (hl:D.sure.length=D.now.length) (hw:w1.heap[p]?=w.heap[p]?) (hr:∀g,g≠p->g≠gL->w1.heap[g]?=w.heap[g]?)
  (ho:Own 0 w1 (.slice (some ⟨gL,0,none⟩) D.now.length cL) D.now):DevC (w1.setCell ⟨p,2,none⟩ (.slice none 0 0)) p gN gL cN cL (.slice none 0 0) vO f (setD D):=by
 have k:∀g,g≠p->(w1.setCell ⟨p,2,none⟩ (.slice none 0 0)).heap[g]?=w1.heap[g]?:=fun g hg=>Below.heap_setCell w1 ⟨p,2,none⟩ (.slice none 0 0) g hg
 have hc:=yO w1 p 2 (.slice none 0 0) _ _ _ (hw.trans h.cells);refine {h with cells:=?_,now:=?_,sure:=?_,since:=World.ownsRow_nil _ _ _ _,out:=?_,fuse:=h.fuse,pS:=by simp [Value.ownBlock],NS:=by simp [Value.ownBlock],LS:=by simp [Value.ownBlock],SO:=fun g hg=>by simp [Value.ownBlock] at hg}
 ·rw [hc,hl];rfl
 ·exact h.now.kept ((k gN h.pN.symm).trans (hr gN h.pN.symm h.NL))
 ·exact ho.kept (k gL h.pL.symm)
 ·exact h.out.keep (fun g hg=>(k g (fun e=>h.pO (e▸hg))).trans (hr g (fun e=>h.pO (e▸hg)) (fun e=>h.LO (e▸hg))))
theorem settle_any {w:World} {p:Nat} {F:Nat->Prop} {D:Dv} (h:Dev w p F D):
  Calls prog 148 #[.pointer (some ⟨p,0,none⟩)] w fun e w'=>e=.returned (.tuple #[])/\Dev w' p F (setD D)/\Ch w.heap.size F w w':=by
 have ok':=gE h.1;obtain ⟨ok,hF,gN,gL,cN,cL,vS,vO,f,hc,hfo⟩:=h;obtain ⟨c0,c1,c2,_,_,_,_,z⟩:=hc.at;have z2:=z 2;have hp:F p:=hfo p (.inl rfl);have hL:F gL:=hfo gL (.inr (.inr (.inl rfl)));obtain ⟨cur,q1,q2,q3,q4,q5,q6⟩:=hc.sure.cur;have hl:D.sure.length=D.now.length:=by rw [ok.sure,ok.now]
 have hrow:=QS (hc.now.row' ok.bnow).2;have ho:=own_lay (off:=0) (cs:=D.now) q1 q2 q3 q4 q5 q6 (by omega);rw [lay'_all _ _ hl,hl] at ho;obtain ⟨X,hX⟩:∃X,X=(cur.toList.take 0++D.now.map (Value.int .u8)++cur.toList.drop (0+(D.now.map (Value.int .u8)).length)).toArray:=⟨_,rfl⟩;rw [<-hX] at ho;rw [hl] at c1 q2;have k0:∀cs,(w.drew.setRow gL cs).cell? ⟨p,0,none⟩=some (.slice (some ⟨gN,0,none⟩) D.now.length cN):=fun cs=>(JM _ _ _ _ hc.pL).trans c0
 have k1:∀cs,(w.drew.setRow gL cs).cell? ⟨p,1,none⟩=some (.slice (some ⟨gL,0,none⟩) D.now.length cL):=fun cs=>(JM _ _ _ _ hc.pL).trans c1
 have k2:∀cs,(w.drew.setRow gL cs).cell? ⟨p,2,none⟩=some vS:=fun cs=>(JM _ _ _ _ hc.pL).trans c2
 have k3:∀cs,(w.drew.setRow gL cs).frozen? ⟨p,2,none⟩=false:=fun cs=>(uR _ _ _ _ hc.pL).trans z2
 have hd:Hid (Dev ((w.setRow gL X).setCell ⟨p,2,none⟩ (.slice none 0 0)) p F (setD D)):=by
  refine ⟨ok',fun k hk=>by rw [yP];simp [World.setRow];exact hF k hk,gN,gL,cN,cL,_,vO,f,hc.settled hl (setRow_other _ _ _ _ hc.pL) (fun g _ hg=>setRow_other _ _ _ _ hg) ho,fun k hk=>?_⟩;rcases hk with hk|hk|hk|hk|hk
  ·exact hfo k (.inl hk)
  ·exact hfo k (.inr (.inl hk))
  ·exact hfo k (.inr (.inr (.inl hk)))
  ·simp [Value.ownBlock] at hk
  ·exact hfo k (.inr (.inr (.inr (.inr hk))))
 have HC:Hid (Ch w.heap.size F w ((w.setRow gL X).setCell ⟨p,2,none⟩ (.slice none 0 0))):=
  ((Ch.refl _ F w).setRow (.inr hL) _).setCell (p:=⟨p,2,none⟩) (.inr hp) _
 have HR:Hid (∀(j:Nat) (u:Value),(D.now.map (Value.int .u8))[j]?=some u->w.cell? ((⟨gN,0,none⟩:Addr).add j)=some u):=hrow;have hfit:Hid (0+(D.now.map (Value.int .u8)).length<=cur.size):=by show _<=_;rw [q4];simp;exact q2
 have Q1:Hid (w.heap[gL]?=some (.cells cur 5 (0,0))):=q1;have HX:Hid (X=(cur.toList.take 0++D.now.map (Value.int .u8)++cur.toList.drop (0+(D.now.map (Value.int .u8)).length)).toArray):=hX;clear hX hl ho hrow q1 q2 q3 q4 q5 q6 hc ok ok' z;go_enter func148,ntmps148
 go_wp2_with fail
 go_region_held3 (fun w'=>w'.cell? ⟨p,0,none⟩=some (.slice (some ⟨gN,0,none⟩) D.now.length cN)/\w'.cell? ⟨p,1,none⟩=some (.slice (some ⟨gL,0,none⟩) D.now.length cL)) (first|exact ⟨k0 _,k1 _⟩|go_keep)
  ((refine ZT (by rfl) (.tmp 5) (.tmp 9) 32 32 (by rfl) 5 underlying32 size5 gL 0 D.now.length cL ⟨gN,0,none⟩ D.now.length cN (by rfl) (by rfl) cur 5 Q1.out (D.now.map (Value.int .u8)) (by simp) HR.out hfit.out (zQ _) X HX.out ?_))
 go_wp2;go_end0
 exact ⟨rfl,hd.out.keep (jB _) (fun _ _=>rfl),HC.out.drew⟩
def WriteAt (w:World) (q o pg:Nat) (b:List Int):Prop:=
 w.cell? ⟨q,o,none⟩=some (.int .i64 pg)/\∀i,i<256->w.cell? ⟨q,o+1+i,none⟩=some (.int .u8 (b.getD i 0))
theorem WriteAt.ch {w w':World} {q o pg:Nat} {b:List Int} {F:Nat->Prop} (h:WriteAt w q o pg b) (hc:Ch w.heap.size F w w') (hq:¬F q):WriteAt w' q o pg b:=
 ⟨(hc.cell (p:=⟨q,o,none⟩) (block_lt_of_cell h.1) hq).trans h.1,fun i hi=>(hc.cell (p:=⟨q,o+1+i,none⟩) (block_lt_of_cell (h.2 i hi)) hq).trans (h.2 i hi)⟩
theorem wrapn (n:Nat) (h:n<=9223372036854775807):IntKind.i64.wrap (n:Int)=n:=by
 rw [IntKind.wrap_i64];omega
theorem u8_and1 (x:Int) (h0:0<=x) (h1:x<=255):bits .and .u8 x 1=x%2:=by
 have h:∀n:Fin 256,bits .and .u8 (n.val:Int) 1=(n.val:Int)%2:=by decide+kernel
 have:=h ⟨x.toNat,by omega⟩;simp only [qF h0] at this;exact this
theorem bit_test (c:Int) (s:Nat) (h0:0<=c) (h1:c<=255):(bits .and .u8 (c/2^s) 1==1)=bitAt c s:=by
 have hp:(0:Int)<2^s:=by exact Int.pow_pos (by omega)
 have a:0<=c/2^s:=Int.ediv_nonneg h0 (by omega);have b:c/2^s<=255:=Int.le_trans (Int.ediv_le_self _ h0) h1;rw [u8_and1 _ a b];unfold bitAt;rw [yE];simp
theorem sect_cells {w:World} {q o pg:Nat} {b:List Int} (h:WriteAt w q o pg b) (hb:b.length=256) (s:Nat) (hs:s<4) (T:Nat) (hT:s*64=T):
  ∀j v,((sect b s).map (Value.int .u8))[j]?=some v->w.cell? ((⟨q,o+1+T,none⟩:Addr).add j)=some v:=by
 intro j v hj
 have hlt:j<(sect b s).length:=by
  have:=(List.getElem?_eq_some_iff.1 hj).1
  simpa using this
 rw [ZW hb hs] at hlt;have e:(⟨q,o+1+T,none⟩:Addr).add j=⟨q,o+1+(T+j),none⟩:=by simp [Addr.add,yJ]
 rw [e,h.2 _ (by omega),<-hT,<-sect_at j s hlt,<-hj,qH,jA,jC (by rw [ZW hb hs];exact hlt)];rfl
theorem onto_any (w:World) (q o pg g N cap:Nat) (b L:List Int) (c:Int) (hw:WriteAt w q o pg b) (hb:b.length=256) (hr:Own 0 w (.slice (some ⟨g,0,none⟩) N cap) L) (hp:pg*256+256<=N) (h4:N<=1048576) (hg:g≠q) (hc0:0<=c) (hc1:c<=255):
  Calls prog 81 #[.pointer (some ⟨q,o,none⟩),.slice (some ⟨g,0,none⟩) N cap,.int .u8 c] w fun e w'=>e=.returned (.tuple #[])/\Own 0 w' (.slice (some ⟨g,0,none⟩) N cap) (onto L pg b c)/\Ch w.heap.size (fun k=>k=g) w w':=by
 go_enter func81,ntmps81
 go_wp2;go_loopw [8] (fun i wr=>∃s:Nat,s<=4/\i=.int .i64 s/\Own 0 wr (.slice (some ⟨g,0,none⟩) N cap) (ontoS L pg b c s)/\Ch w.heap.size (fun k=>k=g) w wr) (fun i _=>4-(intOf i).toNat)
 case atStart=>exact ⟨0,by omega,rfl,by rw [ontoS_zero];exact hr,Ch.refl _ _ _⟩
 case round=>
  obtain ⟨s,hs,rfl,hown,hch⟩:=hrel;by_cases hlt:s<4
  ·cases hbit:bitAt c s
   ·have ht:=bit_test c s hc0 hc1;rw [hbit] at ht;have hown':Hid (Own 0 wr (.slice (some ⟨g,0,none⟩) N cap) (ontoS L pg b c (s+1))):=by rw [ontoS_skip _ _ _ _ _ hbit];exact hown
    clear hown hr hw hbit;go_wp2;go_roundw
    case rel=>exact ⟨s+1,by omega,by go_num,hown'.out,hch⟩
    case measure=>simp [intOf];omega
   ·have ht:=bit_test c s hc0 hc1;rw [hbit] at ht;obtain ⟨cur,q1,q2,q3,q4,q5,q6⟩:=hown.cur;have hsl:=ZW hb hlt;obtain ⟨T,hT⟩:∃T,s*64=T:=⟨_,rfl⟩;obtain ⟨A,hA⟩:∃A,pg*256+T=A:=⟨_,rfl⟩;have hwr:=hw.ch hch (by intro e;exact hg e.symm);have hsrc:=sect_cells hwr hb s hlt T hT;have ho:=own_lay (w:=wr.drew) (off:=A) (cs:=sect b s) q1 q2 q3 q4 q5 q6 (by omega);have e1:lay' (ontoS L pg b c s) A (sect b s)=ontoS L pg b c (s+1):=by rw [ontoS_lay _ _ _ _ _ hb hlt (by rw [zP] at q6;omega) hbit,hT,hA]
    rw [e1] at ho;have i1:(s:Int)*64=T:=by omega
    obtain ⟨P2,hP2⟩:∃P2,pg*256=P2:=⟨_,rfl⟩;have i2:(pg:Int)*256=P2:=by omega
    have i0:(P2:Int)+T=A:=by omega
    have i3:A+64<=N:=by omega
    have i4:T+64<=256:=by omega
    obtain ⟨U,hU⟩:∃U,T+64=U:=⟨_,rfl⟩;have i5:(T:Int)+64=U:=by omega
    have i6:(0:Int)<=A:=by omega
    have i7:(A:Int)<=N:=by omega
    have i8:(0:Int)<=U:=by omega
    have i9:(U:Int)<=256:=by omega
    have j1:(0:Int)<=T:=by omega
    have j2:(T:Int)<=U:=by omega
    have j3:¬256=T:=by omega
    have j5:U-T=64:=by omega
    have j4:¬cap=A:=by omega
    have k1:IntKind.i64.wrap (P2:Int)=P2:=wrapn _ (by omega);have k2:IntKind.i64.wrap (A:Int)=A:=wrapn _ (by omega);have k3:IntKind.i64.wrap (U:Int)=U:=wrapn _ (by omega);have hpb:pg<=4096:=by omega
    have hcap:N<=cap:=q2;have hcm:=q3;unfold maxLen at hcm;obtain ⟨X,hX⟩:∃X,X=(cur.toList.take A++(sect b s).map (Value.int .u8)++cur.toList.drop (A+((sect b s).map (Value.int .u8)).length)).toArray:=⟨_,rfl⟩;rw [<-hX] at ho;have HO:Hid (Own 0 (wr.drew.setRow g X) (.slice (some ⟨g,0,none⟩) N cap) (ontoS L pg b c (s+1))):=ho;have HC:Hid (Ch w.heap.size (fun k=>k=g) w (wr.drew.setRow g X)):=hch.drew.setRow (.inr rfl) X;have HX:Hid (X=(cur.toList.take A++(sect b s).map (Value.int .u8)++cur.toList.drop (A+((sect b s).map (Value.int .u8)).length)).toArray):=hX;have Q1:Hid (wr.heap[g]?=some (.cells cur 5 (0,0))):=q1;have HS:Hid (∀j v,((sect b s).map (Value.int .u8))[j]?=some v->wr.cell? ((⟨q,o+1+T,none⟩:Addr).add j)=some v):=hsrc;have HF:Hid (A+((sect b s).map (Value.int .u8)).length<=cur.size):=by show _<=_;rw [qU,hsl,q4];omega
    have HL:Hid ((sect b s).length=64):=hsl;have hpc:=hwr.1;have kpc:(wr.drew.setRow g X).cell? ⟨q,o,none⟩=some (.int .i64 pg):=(JM _ _ _ _ (fun e=>hg e.symm)).trans hpc;clear hX q1 q2 q3 q4 q5 q6 hsl hwr hsrc ho e1 hT hA hU hP2 hown hr hw hch hbit hb;go_wp2_with fail
    go_region_held3 (fun w'=>w'.cell? ⟨q,o,none⟩=some (.int .i64 pg)) (first|exact kpc|go_keep)
     ((refine ZT (by rfl) (.tmp 26) (.tmp 33) 32 32 (by rfl) 5 underlying32 size5 g A (N-A) (cap-A) ⟨q,o+1+T,none⟩ 64 (256-T) (by rfl) (by rfl) cur 5 Q1.out ((sect b s).map (Value.int .u8)) (by rw [qU,HL.out];exact (xX (by omega)).symm) HS.out HF.out (zQ _) X HX.out ?_))
    go_wp2;go_roundw
    case rel=>exact ⟨s+1,by omega,by go_num,HO.out,HC.out⟩
    case measure=>simp [intOf];omega
  ·have e:s=4:=by omega
   subst e;go_wp2;go_end0
   exact ⟨rfl,hown,hch⟩
theorem size64:(prog.info? 111).map (·.size)=some 257:=by kernel_rfl
theorem info64:(prog.info? 111).map (fun i=>(i.zero.map (·.cells.size),i.size,i.bytes))=some (some 257,257,264):=by kernel_rfl
theorem parts64:∃i z,prog.info? 111=some i/\i.zero=some z/\i.size=257/\i.bytes=264/\z.cells.size=257:=by
 have h:=info64;cases hi:prog.info? 111 with
 |none=>rw [hi] at h;simp at h
 |some i=>
  rw [hi] at h;simp only [yN,jQ,xQ] at h;cases hz:i.zero with
  |none=>rw [hz] at h;simp at h
  |some z=>
   rw [hz] at h;simp only [yN,jQ] at h;exact ⟨i,z,rfl,hz,h.2.1,h.2.2,h.1⟩
theorem row64:∃d,prog.underlying 111=some d/\d.isRow=true:=⟨_,underlying111,rfl⟩
theorem zU {x:Nat × List Int} (h:x.2.length=256):(wcells x).length=257:=by simp [wcells,h]
theorem ZE (x:Nat × List Int):∀v∈wcells x,v.oneCell'=true:=by
 intro v hv;rcases List.mem_cons.1 hv with rfl|hv
 ·rfl
 ·exact zQ _ v hv
theorem WriteAt.range {w:World} {q o pg:Nat} {b:List Int} (h:WriteAt w q o pg b) (hb:b.length=256):w.rangeAt q o (wcells (pg,b)):=by
 intro j v hj;cases j with
 |zero=>simp [wcells] at hj;subst hj;exact h.1
 |succ j=>
  simp only [wcells,qK,qH] at hj
  have hlt:j<b.length:=by
   by_cases hlt:j<b.length
   ·exact hlt
   ·rw [qD (by omega)] at hj;exact absurd hj (by simp)
  rw [show o+(j+1)=o+1+j by omega,h.2 j (by omega),<-hj,jA,jC hlt];rfl
theorem WriteAt.of_range {w:World} {q o pg:Nat} {b:List Int} (hb:b.length=256) (h:w.rangeAt q o (wcells (pg,b))):WriteAt w q o pg b:=by
 refine ⟨h 0 _ rfl,fun i hi=>?_⟩;have:=h (i+1) (.int .u8 (b.getD i 0)) (by simp only [wcells,qK,qH,jA];rw [jC (by omega)];rfl);rw [show o+1+i=o+(i+1) by omega];exact this
theorem kK (w:World) (q o:Nat) (cs:List Value) (hl:cs.length=257) (hr:w.rangeAt q o cs):(Instr.loadAt 111 (.pointer (some ⟨q,o,none⟩))).run prog w=.ok (.agg cs.toArray) w:=by
 obtain ⟨d,h1,h2⟩:=row64;exact run_loadAt_mid w q o 111 cs d hr h1 h2 (by rw [hl];exact size64)
theorem fZ:∀(l:List Value) (k:Nat) (Z:Array Value),k+l.length<=Z.size->((l.zipIdx k).foldl (fun (a:Array Value) (x:Value × Nat)=>a.setIfInBounds (0*257+x.2) x.1) Z).toList=Z.toList.take k++l++Z.toList.drop (k+l.length)
 |[],k,Z,_=>by simp
 |v::r,k,Z,h=>by
  simp only [qN] at h;rw [List.zipIdx_cons,yI];rw [fZ r (k+1) _ (by simp;omega)];have hl:Z.toList.length=Z.size:=by simp
  simp only [Array.toList_setIfInBounds,Nat.zero_mul,qT,qN];rw [xM,List.take_set_of_le (by omega),qX (by omega),List.drop_set_of_lt (by omega)];simp [yJ,Nat.add_comm 1]
theorem fill_one (Z cs:Array Value) (hz:Z.size=257) (hc:cs.size=257):Instr.fill (fun i=>some (i*257,257)) Z [(0,.agg cs)]=some cs:=by
 have e:(Value.agg cs).cells=cs:=rfl;unfold Instr.fill;show (if ((Value.agg cs).cells.size≠257||0*257+(Value.agg cs).cells.size>Z.size)=true then none else Instr.fill _ _ [])=some cs;rw [if_neg (by rw [e];simp [hz,hc])];unfold Instr.fill;rw [e]
 congr 1
 apply Array.ext';rw [<-Array.foldl_toList,Array.toList_zipIdx];have:=fZ cs.toList 0 Z (by simp [hz,hc]);rw [show (fun (a:Array Value) (x:Value × Nat)=>match x with|(c,j)=>a.setIfInBounds (0*257+j) c)=(fun (a:Array Value) (x:Value × Nat)=>a.setIfInBounds (0*257+x.2) x.1) from rfl,this];simp [hz,hc]
theorem build_write (w:World) (cs:Array Value) (hl:cs.size=257):(Instr.buildSlice 100 1 #[(0,.agg cs)]).run prog w=.ok (.slice (some ⟨w.heap.size,0,none⟩) 1 1) (w.alloc (.cells cs 111)):=by
 obtain ⟨i0,z,hi0,hz0,hz1,hz2,hz3⟩:=parts64;have hz:∀w,(zeroValue 111).run prog w=.ok z w:=fun w=>by simp [zeroValue,typeInfo,hi0,hz0]
 have hs:∀w,(sizeOf 111).run prog w=.ok 257 w:=fun w=>by simp [sizeOf,typeInfo,hi0,hz1]
 unfold Instr.buildSlice;simp only [run_underlying underlying100,hs,Sem.run_bind,Result.andThen_ok];rw [if_neg (by decide),if_neg (by decide)];simp only [Sem.run_bind,hz,Result.andThen_ok,Sem.run_pure];rw [fill_one _ cs (by simp) hl];simp [newRow]
def LoadW (x:Value):Sem Value:=Instr.loadAt 111 x
theorem loadW_eq (x:Value):Instr.loadAt 111 x=LoadW x:=rfl
def BuildW (ps:Array (Nat × Value)):Sem Value:=Instr.buildSlice 100 1 ps
theorem buildW_eq (ps:Array (Nat × Value)):Instr.buildSlice 100 1 ps=BuildW ps:=rfl
attribute [local go_sem ↓] loadW_eq buildW_eq
theorem scells_snoc (l:List (Nat × List Int)) (x:Nat × List Int):scells (l++[x])=scells l++wcells x:=by simp [scells]
theorem wrote {w w1 w2:World} {p:Nat} {F:Nat->Prop} {D:Dv} {gN gL cN cL:Nat} {vS vO:Value} {f:Int} {pg g cap:Nat} {b:List Int} {o:Obj} (ok:(wrD D pg b).ok) (hF:∀k,F k->k<w.heap.size) (h:DevC w p gN gL cN cL vS vO f D) (hfo:∀k,foot p gN gL vS vO k->F k)
  (ho:Own 0 w1 (.slice (some ⟨gN,0,none⟩) D.now.length cN) (onto D.now pg b 15)) (hc:Ch w.heap.size (fun k=>k=gN) w w1)
  (hown:w2.ownsRow 0 111 257 (.slice (some ⟨g,0,none⟩) (D.since.length+1) cap) (D.since.length+1) (scells D.since++wcells (pg,b)))
  (hgrow:(w1.alloc o).grownBy w2 vS.ownBlock) (hat:vS.ownBlock=some g\/g=w1.heap.size+1) (hlt:g<w2.heap.size):
  ∃F',Dev (w2.setCell ⟨p,2,none⟩ (.slice (some ⟨g,0,none⟩) (D.since.length+1) cap)) p F' (wrD D pg b)/\Step F F' w (w2.setCell ⟨p,2,none⟩ (.slice (some ⟨g,0,none⟩) (D.since.length+1) cap)):=by
 have s1:=hc.size;have s2:=hgrow.size;simp at s2;have hp:p<w.heap.size:=hF p (hfo p (.inl rfl));have hN:gN<w.heap.size:=hF gN (hfo gN (.inr (.inl rfl)));have hL:gL<w.heap.size:=hF gL (hfo gL (.inr (.inr (.inl rfl))))
 have k2:∀k,k<w1.heap.size->vS.ownBlock≠some k->w2.heap[k]?=w1.heap[k]?:=fun k hk hne=>
  (hgrow.block k (by simp;omega) (fun e=>hne e.symm)).trans (Below.heap_alloc _ _ _ hk)
 have k1:∀k,k<w.heap.size->k≠gN->w1.heap[k]?=w.heap[k]?:=fun k hk hne=>hc.block k hk hne
 have k3:∀k,k≠p->(w2.setCell ⟨p,2,none⟩ (.slice (some ⟨g,0,none⟩) (D.since.length+1) cap)).heap[k]?=w2.heap[k]?:=fun k hk=>Below.heap_setCell w2 ⟨p,2,none⟩ _ k hk
 have hgp:g≠p:=by rcases hat with e|e;exact fun e2=>h.pS (e2▸e);omega
 have hgN:g≠gN:=by rcases hat with e|e;exact fun e2=>h.NS (e2▸e);omega
 have hgL:g≠gL:=by rcases hat with e|e;exact fun e2=>h.LS (e2▸e);omega
 have hgO:vO.ownBlock≠some g:=by
  rcases hat with e|e
  ·exact h.SO g e
  ·intro e2;have:=hF g (hfo g (.inr (.inr (.inr (.inr e2)))));omega
 have hcells:w2.heap[p]?=w.heap[p]?:=(k2 p (by omega) h.pS).trans (k1 p hp h.pN);refine ⟨fun k=>F k\/w.heap.size<=k/\k<w2.heap.size,⟨ok,fun k hk=>?_,gN,gL,cN,cL,.slice (some ⟨g,0,none⟩) (D.since.length+1) cap,vO,f,?_,fun k hk=>?_⟩,?_,?_⟩
 ·rw [yP];rcases hk with hk|hk
  ·have:=hF k hk;omega
  ·exact hk.2
 ·refine {h with cells:=?_,now:=?_,sure:=?_,since:=?_,out:=?_,fuse:=h.fuse,pS:=by simp [Value.ownBlock];exact hgp,NS:=by simp [Value.ownBlock];exact hgN,LS:=by simp [Value.ownBlock];exact hgL,SO:=fun k hk=>by simp [Value.ownBlock] at hk;subst hk;exact hgO}
  ·have e:=yO w2 p 2 (.slice (some ⟨g,0,none⟩) (D.since.length+1) cap) _ _ _ (hcells.trans h.cells);rw [e];simp only [wrD,XJ];rfl
  ·simp only [wrD,XJ];exact ho.kept ((k3 gN h.pN.symm).trans (k2 gN (by omega) h.NS))
  ·exact h.sure.kept ((k3 gL h.pL.symm).trans ((k2 gL (by omega) h.LS).trans (k1 gL hL h.NL.symm)))
  ·simp only [wrD,jN,qN,yG];rw [scells_snoc];exact yQ hown (fun k hk=>by simp [Value.ownBlock] at hk;subst hk;exact k3 g hgp)
  ·refine h.out.keep (fun k hk=>?_);have hk1:=hF k (hfo k (.inr (.inr (.inr (.inr hk)))));exact (k3 k (fun e=>h.pO (e▸hk))).trans ((k2 k (by omega) (fun e=>h.SO k e hk)).trans (k1 k hk1 (fun e=>h.NO (e▸hk))))
 ·rcases hk with hk|hk|hk|hk|hk
  ·exact .inl (hfo k (.inl hk))
  ·exact .inl (hfo k (.inr (.inl hk)))
  ·exact .inl (hfo k (.inr (.inr (.inl hk))))
  ·simp [Value.ownBlock] at hk;subst hk;rcases hat with e|e
   ·exact .inl (hfo g (.inr (.inr (.inr (.inl e)))))
   ·exact .inr ⟨by omega,hlt⟩
  ·exact .inl (hfo k (.inr (.inr (.inr (.inr hk)))))
 ·have a1:Ch w.heap.size F w w1:=hc.mono (jB _) (fun k _ e=>by rw [e];exact hfo gN (.inr (.inl rfl)));exact ((a1.alloc s1 o).grown hgrow (by simp;omega) (fun k hk=>.inr (hfo k (.inr (.inr (.inr (.inl hk))))))).setCell (p:=⟨p,2,none⟩) (.inr (hfo p (.inl rfl))) _
 ·intro k hk;rcases hk with hk|hk
  ·exact .inl hk
  ·exact .inr hk.1
set_option maxRecDepth 100000 in
theorem wdo_any {w:World} {p:Nat} {F:Nat->Prop} {D:Dv} (h:Dev w p F D) (q pg:Nat) (b:List Int) (hq0:w.cell? ⟨q,0,none⟩=some (.pointer (some ⟨p,0,none⟩))) (hw:WriteAt w q 1 pg b) (hb:b.length=256) (hby:Bys b) (hpg:pg<D.n) (hq:¬F q) (hs:D.since.length<=1000000):
  Calls prog 147 #[.pointer (some ⟨q,0,none⟩)] w fun e w'=>e=.returned (.tuple #[])/\∃F',Dev w' p F' (wrD D pg b)/\Step F F' w w':=by
 have ok':=VC h.1 hpg hb hby;obtain ⟨ok,hF,gN,gL,cN,cL,vS,vO,f,hc,hfo⟩:=h;obtain ⟨c0,_,c2,_,_,_,_,z⟩:=hc.at;have z2:=z 2;have hFN:F gN:=hfo gN (.inr (.inl rfl));have hqN:gN≠q:=fun e=>hq (e▸hFN)
 have hlen:=ok.now;have hn4:=ok.n4;have hbq:q<w.heap.size:=block_lt_of_cell hq0;have hp:p<w.heap.size:=hF p (hfo p (.inl rfl));have hon:=onto_any w.drew q 1 pg gN D.now.length cN b D.now 15 hw hb hc.now (by omega) (by omega) hqN (by omega) (by omega);have hend:=fun (w1 w2:World) (g cap:Nat) (o:Obj) ho hc1 hown hgrow hat hlt=>wrote (w:=w) (w1:=w1) (w2:=w2) (g:=g) (cap:=cap) (o:=o) ok' hF hc hfo ho hc1 hown hgrow hat hlt
 have hsince:=hc.since;have hpN:=hc.pN;have hNS:=hc.NS;have hpS:=hc.pS;have hqS:vS.ownBlock≠some q:=fun e=>hq (hfo q (.inr (.inr (.inr (.inl e)))))
 have HE:Hid _:=hend;have HW:Hid (WriteAt w q 1 pg b):=hw;have HS:Hid (w.ownsRow 0 111 257 vS D.since.length (scells D.since)):=hsince;have hSF:∀k,vS.ownBlock=some k->k<w.heap.size/\k≠gN:=fun k hk=>⟨hF k (hfo k (.inr (.inr (.inr (.inl hk))))),fun e=>hNS (e▸hk)⟩
 have HSF:Hid (∀k,vS.ownBlock=some k->k<w.heap.size/\k≠gN):=hSF;have HL:Hid (D.now.length=D.n*256):=hlen;clear hend hw hsince hSF ok ok' hF hc hfo z hlen hFN hby;go_enter func147,ntmps147
 go_wp2_with fail
 go_region_held3 (fun w'=>w'.cell? ⟨q,0,none⟩=some (.pointer (some ⟨p,0,none⟩))/\w'.cell? ⟨p,0,none⟩=some (.slice (some ⟨gN,0,none⟩) D.now.length cN))
  (first|go_keep|exact ⟨(hc1.cell (p:=⟨q,0,none⟩) hbq (fun e=>hqN e.symm)).trans hq0,(hc1.cell (p:=⟨p,0,none⟩) hp hpN).trans c0⟩)
  (first|(go_at_call 81;refine hon.mono ?_;rintro e w1 ⟨rfl,ho1,hc1⟩))
 have hch:Ch w.heap.size (fun k=>k=gN) w w1:=⟨hc1.os,hc1.tape,hc1.output,hc1.size,hc1.block⟩;have HO:Hid (Own 0 w1 (.slice (some ⟨gN,0,none⟩) D.now.length cN) (onto D.now pg b 15)):=ho1;have HC:Hid (Ch w.heap.size (fun k=>k=gN) w w1):=hch;have s1:=hch.size;have d0:w1.cell? ⟨q,0,none⟩=some (.pointer (some ⟨p,0,none⟩)):=(hch.cell (p:=⟨q,0,none⟩) hbq (fun e=>hqN e.symm)).trans hq0;have d2:w1.cell? ⟨p,2,none⟩=some vS:=(hch.cell (p:=⟨p,2,none⟩) hp hpN).trans c2;have y2:w1.frozen? ⟨p,2,none⟩=false:=(hch.frozen (p:=⟨p,2,none⟩) hp hpN).trans z2;have hw1:WriteAt w1 q 1 pg b:=HW.out.ch hch (fun e=>hqN e.symm);have HS1:Hid (w1.ownsRow 0 111 257 vS D.since.length (scells D.since)):=yQ HS.out (fun k hk=>hch.block k (HSF.out k hk).1 (HSF.out k hk).2);obtain ⟨i0,zz,hi0,hz0,hz1,hz2,hz3⟩:=parts64;obtain ⟨cs,hcs⟩:∃cs,(wcells (pg,b)).toArray=cs:=⟨_,rfl⟩;have hcl:cs.size=257:=by rw [<-hcs];simpa using zU (x:=(pg,b)) hb
 have rL:(LoadW (.pointer (some ⟨q,1,none⟩))).run prog w1.drew=.ok (.agg cs) w1.drew:=by
  rw [<-hcs];exact kK w1.drew q 1 _ (zU hb) (hw1.range hb)
 have rB:(BuildW #[(0,.agg cs)]).run prog w1.drew=.ok (.slice (some ⟨w1.heap.size,0,none⟩) 1 1) (w1.drew.alloc (.cells cs 111)):=build_write w1.drew cs hcl;have HCS:Hid ((wcells (pg,b)).toArray=cs):=hcs;have lq:q<w1.heap.size:=by omega
 have lp:p<w1.heap.size:=by omega
 have a0:∀o,(w1.alloc o).cell? ⟨q,0,none⟩=some (.pointer (some ⟨p,0,none⟩)):=fun o=>(World.cell?_alloc_lt _ _ _ lq).trans d0
 have a2:∀o,(w1.alloc o).cell? ⟨p,2,none⟩=some vS:=fun o=>(World.cell?_alloc_lt _ _ _ lp).trans d2
 have b2:∀o,(w1.alloc o).frozen? ⟨p,2,none⟩=false:=fun o=>(World.frozen?_alloc_past _ _ _ lp).trans y2
 have HNW:Hid (∀(j:Nat) (u:Value),(wcells (pg,b))[j]?=some u->(w1.alloc (.cells cs 111)).drew.cell? ((⟨w1.heap.size,0,none⟩:Addr).add j)=some u):=by
  intro j u hj;refine World.news_of_block (w:=w1.alloc (.cells cs 111)) (cs:=cs) (t:=111) (fr:=(0,0)) (heap_alloc_new w1 _) j u ?_;rw [<-hcs];exact hj
 have hfar:∀(w2:World) (k o:Nat),(w1.alloc (.cells cs 111)).drew.grownBy w2 vS.ownBlock->k<w1.heap.size->vS.ownBlock≠some k->w2.cell? ⟨k,o,none⟩=w1.cell? ⟨k,o,none⟩/\w2.frozen? ⟨k,o,none⟩=w1.frozen? ⟨k,o,none⟩:=fun w2 k o hg hk hne=>by
  have e:w2.heap[k]?=w1.heap[k]?:=(hg.block k (by simp;omega) (fun e=>hne e.symm)).trans (Below.heap_alloc w1 _ k hk);exact ⟨World.cell?_of_block (w:=w1) (a:=⟨k,o,none⟩) e,World.frozen?_of_block (w:=w1) (a:=⟨k,o,none⟩) e⟩
 have HFR:Hid _:=hfar;clear hfar hcs hw1 ho1 hc1 hch hon hq0 c0 c2 z2 hcl;go_wp2_with fail
 go_region_law ((refine step_append_lies _ (by rfl) (.tmp 23) (.tmp 28) 100 (by rfl) 0 111 i0 zz 257 264 underlying100 hi0 hz0 hz1 hz2 hz3 (by omega) vS D.since.length (scells D.since) (by rfl) (World.ownsRow.alloc HS1.out _) ⟨w1.heap.size,0,none⟩ 1 1 (wcells (pg,b)) (by rfl) (by rw [zU hb]) HNW.out (ZE _) (by omega) (by unfold maxLen;omega) (by omega) (by simp) (w1.heap.size+1) (by simp) ?_;intro g cap w2 hown2 hgrow hat hlt;have hp2:=(HFR.out w2 p 2 hgrow lp hpS).1.trans d2;have hz2':=(HFR.out w2 p 2 hgrow lp hpS).2.trans y2;have hq2:=(HFR.out w2 q 0 hgrow lq hqS).1.trans d0;have HE2:=HE.out w1 w2 g cap (.cells cs 111) HO.out HC.out hown2 ⟨hgrow.os,hgrow.tape,hgrow.output,hgrow.size,hgrow.block⟩ hat hlt;clear hown2 hgrow hat hlt;have HE3:Hid _:=HE2;clear HE2))
 all_goals
  go_wp2;go_end0
  exact ⟨rfl,HE3.out⟩
end Go.Proofs.YtaijfhadecennaaGreat.Oct
