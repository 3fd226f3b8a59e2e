/- Part of a proof. -/
import Derived.Test.YtjllhcifmfhkmaaGreatYa
import Derived.Deep.Slices
import Derived.ChangeSame
import Derived.ProofKit
namespace Go.Proofs.YtjllhcifmfhkmaaGreat.Oct
open Go.RowKit Go.ChangeShapes Go.WideShapes
structure Ht where
 page:Int
 at':Int
 to:Int
 sl:Bool
def noHit:Ht:=⟨0,0,0,false⟩
structure HitAt (w:World) (b o:Nat) (d:Ht):Prop where
 c0:w.cell? ⟨b,o,none⟩=some (.int .i64 d.page)
 c1:w.cell? ⟨b,o+1,none⟩=some (.int .i64 d.at')
 c2:w.cell? ⟨b,o+2,none⟩=some (.int .u8 d.to)
 c3:w.cell? ⟨b,o+3,none⟩=some (.bool d.sl)
 wp: -9223372036854775808≤d.page∧d.page≤9223372036854775807
 wa: -9223372036854775808≤d.at'∧d.at'≤9223372036854775807
 wt:0≤d.to∧d.to≤255
theorem HitAt.same {w w':World} {b o:Nat} {d:Ht} (h:HitAt w b o d) (k:w'.heap[b]?=w.heap[b]?):HitAt w' b o d:=
 {h with
  c0:=(World.cell?_of_block (w:=w) (a:=⟨b,o,none⟩) k).trans h.c0
  c1:=(World.cell?_of_block (w:=w) (a:=⟨b,o+1,none⟩) k).trans h.c1
  c2:=(World.cell?_of_block (w:=w) (a:=⟨b,o+2,none⟩) k).trans h.c2
  c3:=(World.cell?_of_block (w:=w) (a:=⟨b,o+3,none⟩) k).trans h.c3}
def IsHits (w:World) (a:Option Addr) (cap:Nat) (l:List Ht):Prop:=
 l.length≤cap∧cap≤maxLen∧(l=[]∨∃b off,a=some ⟨b,off,none⟩∧∀i,i<l.length→HitAt w b (off+i*4) (l.getD i noHit))
theorem IsHits.below {w w':World} {a:Option Addr} {cap:Nat} {l:List Ht} (h:IsHits w a cap l) (k:Below w.heap.size w w'):IsHits w' a cap l:=by
 obtain ⟨h1,h2,h3⟩:=h;refine ⟨h1,h2,?_⟩;rcases h3 with h3|⟨b,off,e,hc⟩
 ·exact .inl h3
 ·exact .inr ⟨b,off,e,fun i hi=>(hc i hi).same (k.block b (block_lt_of_cell (hc i hi).c0))⟩
theorem hwf64 {z:Int} (h:(Lit.int .i64 z).wf=true): -9223372036854775808≤z∧z≤9223372036854775807:=by
 simp [Lit.wf,IntKind.min,IntKind.max,IntKind.signed,IntKind.bits] at h;omega
theorem hwf8 {z:Int} (h:(Lit.int .u8 z).wf=true):0≤z∧z≤255:=by
 simp [Lit.wf,IntKind.min,IntKind.max,IntKind.signed,IntKind.bits] at h;omega
theorem cellsHt:Tryz.prog.cellsOf 85=4:=by kernel_rfl
theorem cellsH3:Tryz.prog.cellsOf 3=1:=by kernel_rfl
theorem cellsH5:Tryz.prog.cellsOf 5=1:=by kernel_rfl
theorem cellsH4:Tryz.prog.cellsOf 4=1:=by kernel_rfl
set_option maxRecDepth 20000 in
theorem open_hit {H:Type} {enc:TypeId × Value→H} {w:World} {base fuel:Nat} {held:Bool} {cs:List Value} {x:DataW H × List MemPlace} (h:DataW.trod enc Tryz.prog w base (fun _=>true) held fuel 85 cs=some x):
  ∃d:Ht,cs=[.int .i64 d.page,.int .i64 d.at',.int .u8 d.to,.bool d.sl]∧(-9223372036854775808≤d.page∧d.page≤9223372036854775807)∧(-9223372036854775808≤d.at'∧d.at'≤9223372036854775807)∧(0≤d.to∧d.to≤255):=by
 obtain ⟨xs,n,_,_,hl,hlen,hf⟩:=DataW.trod_struct Tryz.underlying85 h;rw [cellsHt] at hl
 match cs,hl with
 |[v0,v1,v2,v3],_=>
  match xs,hlen with
  |[y0,y1,y2,y3],_=>
   have g0:=hf 0 _ rfl;have g1:=hf 1 _ rfl;have g2:=hf 2 _ rfl;have g3:=hf 3 _ rfl;simp [cellsH3,cellsH5,cellsH4] at g0 g1 g2 g3;obtain ⟨n0,e0,_,w0⟩:=DataW.trod_int Tryz.underlying3 g0;obtain ⟨n1,e1,_,w1⟩:=DataW.trod_int Tryz.underlying3 g1;obtain ⟨n2,e2,_,w2⟩:=DataW.trod_int Tryz.underlying5 g2;obtain ⟨b3,e3,_⟩:=DataW.trod_bool Tryz.underlying4 g3;simp at e0 e1 e2 e3;subst e0 e1 e2 e3;exact ⟨⟨n0,n1,n2,b3⟩,rfl,hwf64 w0,hwf64 w1,hwf8 w2⟩
set_option maxRecDepth 20000 in
theorem open_hits {H:Type} {enc:TypeId × Value→H} {w:World} {base fuel:Nat} {held:Bool} {a:Option Addr} {len cap:Nat} {x:DataW H × List MemPlace} (h:DataW.trod enc Tryz.prog w base (fun _=>true) held fuel 47 [.slice a len cap]=some x):
  ∃l:List Ht,len=l.length∧IsHits w a cap l:=by
 rcases Deep.open_slice Tryz.underlying47 h with ⟨hcs,_⟩|⟨x,l,c,m,n,D,Pl,hcs,_,hl,hm,hmm,_,hx⟩
 ·simp at hcs;obtain ⟨rfl,rfl,rfl⟩:=hcs;exact ⟨[],rfl,Nat.le_refl _,by simp [maxLen],.inl rfl⟩
 ·simp at hcs;obtain ⟨rfl,rfl,rfl⟩:=hcs;have hlm:len≤m:=by rw [hmm];split<;>omega
  have each:∀i,i<len→∃d:Ht,∀(b off:Nat),x=⟨b,off,none⟩→HitAt w b (off+i*4) d:=by
   intro i hi;obtain ⟨cs',h1,h2⟩:=hx i (by omega);rw [cellsHt] at h1;obtain ⟨_,hlen,hcell⟩:=World.cells?_some h1;obtain ⟨d,rfl,wp,wa,wt⟩:=open_hit h2;refine ⟨d,fun b off e=>?_⟩;subst e;have q:∀j,((⟨b,off,none⟩:Addr).add (i*4)).add j=⟨b,off+i*4+j,none⟩:=fun j=>by rw [Addr.add_lit,Addr.add_lit]
   have e0:=hcell 0 (by omega);have e1:=hcell 1 (by omega);have e2:=hcell 2 (by omega);have e3:=hcell 3 (by omega);rw [q] at e0 e1 e2 e3;exact ⟨by simpa using e0,by simpa using e1,by simpa using e2,by simpa using e3,wp,wa,wt⟩
  have:Inhabited Ht:=⟨noHit⟩;obtain ⟨f,hf⟩:=Deep.choose_lt each;refine ⟨(List.range len).map f,by simp,by simpa using hl,hm,?_⟩;by_cases h0:len=0
  ·exact .inl (by simp [h0])
  ·refine .inr ?_;obtain ⟨b,off,spot⟩:=x
   have hspot:spot=none:=by
    obtain ⟨cs',h1,h2⟩:=hx 0 (by omega);rw [cellsHt] at h1;obtain ⟨_,hlen,hcell⟩:=World.cells?_some h1;have e0:=hcell 0 (by omega);obtain ⟨v,hv⟩:∃v,w.cell? (((⟨b,off,spot⟩:Addr).add (0*4)).add 0)=some v:=⟨_,e0.trans (List.getElem?_eq_getElem (by omega))⟩
    simpa [Addr.add] using World.cell?_spot hv
   subst hspot;refine ⟨b,off,rfl,fun i hi=>?_⟩;simp at hi;have:=hf i hi b off rfl;rw [show ((List.range len).map f).getD i noHit=f i by simp [List.getD_eq_getElem?_getD,hi]];exact this
end Go.Proofs.YtjllhcifmfhkmaaGreat.Oct
