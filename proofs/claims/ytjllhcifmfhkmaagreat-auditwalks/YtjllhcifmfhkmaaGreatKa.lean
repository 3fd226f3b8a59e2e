/- Part of a proof. -/
import Derived.Test.YtjllhcifmfhkmaaGreatR
import Derived.Test.YtjllhcifmfhkmaaGreatYa
import Derived.Laws.CopyOwn
namespace Go.Proofs.YtjllhcifmfhkmaaGreat.Oct
open Go.RowKit
def ned (n:Nat):Nat:=(n+243)/244
def nedI (n:Int):Int:=if n<1 then 0 else (n-1)/244+1
theorem nedI_nat (n:Nat):nedI n=ned n:=by
 unfold nedI ned;split<;>omega
def prt (zs:List Int) (i:Nat):List Int:=(zs.drop (i*244)).take 244
def nxt (pg:List Int) (i:Nat):Int:=if i+1<pg.length then pg.getD (i+1) 0 else 0
def cpg (zs pg:List Int) (i:Nat):Pg:=⟨5,0,(prt zs i).length,nums 4 (nxt pg i).toNat++prt zs i⟩
def ctL (zs pg:List Int):List (List Int):=(List.range pg.length).map fun i=>sealL (cpg zs pg i)
def CtOk (pg:List Int):Prop:=∀i,i<pg.length→(2≤pg.getD i 0∧pg.getD i 0<4096)∧∀k,k<i→pg.getD k 0≠pg.getD i 0
def ctB (pg:List Int):Bool:=decide (∀i,i<pg.length→(2≤pg.getD i 0∧pg.getD i 0<4096)∧∀k,k<i→pg.getD k 0≠pg.getD i 0)
theorem ctB_iff {pg:List Int}:ctB pg=true↔CtOk pg:=decide_eq_true_iff
def ctE (zs pg:List Int):Int:=if pg.length=ned zs.length then (if ctB pg then (if zs.length≤1048576 then 0 else 3) else 1) else 1
def ctZ (zs pg:List Int):List (List Int):=if ctE zs pg=0 then ctL zs pg else []
theorem prt_len (zs:List Int) (i:Nat):(prt zs i).length=min 244 (zs.length-i*244):=by simp [prt]
theorem prt_bys {zs:List Int} (h:Bys zs) (i:Nat):Bys (prt zs i):=fun z hz=>h z (List.mem_of_mem_drop (List.mem_of_mem_take hz))
theorem nxt_in {pg:List Int} (h:CtOk pg) (i:Nat):0≤nxt pg i∧nxt pg i<4096:=by
 unfold nxt;split
 ·next h1=>have:=(h (i+1) h1).1;omega
 ·omega
theorem cpg_bys {zs pg:List Int} (h:Bys zs) (i:Nat):Bys (cpg zs pg i).body:=(nums_bys _ _).app (prt_bys h i)
theorem cpg_len (zs pg:List Int) (i:Nat):(cpg zs pg i).body.length=4+(prt zs i).length:=by simp [cpg,nums_len]
theorem cpg_ok (zs pg:List Int) (i:Nat):sealE (cpg zs pg i)=0:=by
 have hp:=prt_len zs i;unfold sealE argP;rw [decide_eq_true (by refine ⟨⟨by show (1:Int)≤5;omega,by show (5:Int)≤5;omega⟩,⟨by show (0:Int)≤0;omega,by show (0:Int)≤255;omega⟩,?_,?_⟩<;>(show _≤_;simp only [cpg];omega)),if_pos rfl,if_pos (by rw [cpg_len];omega)]
theorem cpg_seal (zs pg:List Int) (i:Nat):sealZ (cpg zs pg i)=sealL (cpg zs pg i):=by unfold sealZ;rw [if_pos (cpg_ok zs pg i)]
theorem cpg_256 (zs pg:List Int) (i:Nat):(sealL (cpg zs pg i)).length=256:=seal_len (by rw [cpg_len,prt_len];omega)
theorem ctL_len (zs pg:List Int):(ctL zs pg).length=pg.length:=by simp [ctL]
def nx (P:Pg):Int:=getI P.body 0 4
def ptB (P:Pg):Bool:=decide (P.kind=5)&&(decide (P.level=0)&&(decide (1≤P.count∧P.count≤244)&&(decide (nx P≠1∧nx P<4096∧(nx P≠0→P.count=244))&&nouB (P.body.drop (4+P.count.toNat)))))
def ptE (zs:List Int):Int:=if opE zs=0 then (if ptB (opP zs) then 0 else 4) else opE zs
def ptL (zs:List Int):List Int:=if ptE zs=0 then ((opP zs).body.drop 4).take (opP zs).count.toNat else []
def ptN (zs:List Int):Int:=if ptE zs=0 then nx (opP zs) else 0
theorem ptE_no {zs:List Int} (ho:opE zs=0) (h:ptB (opP zs)=false):ptE zs=4∧ptL zs=[]∧ptN zs=0:=by
 have e:ptE zs=4:=by unfold ptE;rw [if_pos ho,h];rfl
 unfold ptL ptN;rw [e];exact ⟨rfl,rfl,rfl⟩
theorem ptE_op {zs:List Int} (ho:opE zs≠0):ptE zs=opE zs∧ptL zs=[]∧ptN zs=0:=by
 have e:ptE zs=opE zs:=if_neg ho;unfold ptL ptN;rw [e,if_neg ho,if_neg ho];exact ⟨rfl,rfl,rfl⟩
structure Dv where
 n:Nat
 now:List Int
 sure:List Int
 since:List (Nat × List Int)
 out:List Int
 fuse:Int
 ops:Nat
 dead:Bool
def bitAt (c:Int) (s:Nat):Bool:=decide (c/2^s%2=1)
def ontoS (L:List Int) (pg:Nat) (b:List Int) (c:Int) (s:Nat):List Int:=
 L.mapIdx fun i x=>if i/256=pg∧i%256/64<s∧bitAt c (i%256/64)=true then b.getD (i%256) 0 else x
def onto (L:List Int) (pg:Nat) (b:List Int) (c:Int):List Int:=ontoS L pg b c 4
theorem ontoS_len (L:List Int) (pg:Nat) (b:List Int) (c:Int) (s:Nat):(ontoS L pg b c s).length=L.length:=by simp [ontoS]
theorem onto_len (L:List Int) (pg:Nat) (b:List Int) (c:Int):(onto L pg b c).length=L.length:=ontoS_len ..
def pageOf (L:List Int) (pg:Nat):List Int:=(L.drop (pg*256)).take 256
structure Dv.ok (D:Dv):Prop where
 n8:8≤D.n
 n4:D.n≤4096
 now:D.now.length=D.n*256
 sure:D.sure.length=D.n*256
 bnow:Bys D.now
 bsure:Bys D.sure
 bout:Bys D.out
 since:∀x∈D.since,x.1<D.n∧x.2.length=256∧Bys x.2
 fuse: -1≤D.fuse
def opD (D:Dv):Dv:={D with ops:=D.ops+1,fuse:=if 0<D.fuse then D.fuse-1 else D.fuse,out:=D.out.tail}
def oc (D:Dv):Int:=D.out.getD 0 0%3
def dieD (D:Dv):Dv:={D with ops:=D.ops+1,dead:=true}
def wrD (D:Dv) (pg:Nat) (b:List Int):Dv:={D with now:=onto D.now pg b 15,since:=D.since++[(pg,b)]}
def readD (D:Dv):Dv:=if D.dead then D else if D.fuse=0 then dieD D else opD D
def tellsD (D:Dv):Bool:=!D.dead&&!decide (D.fuse=0)&&!decide (oc D=1)
def outD (D:Dv) (l:List Int):Dv:={D with out:=D.out++l}
def newD (L:List Int):Dv:={n:=L.length/256,now:=L,sure:=L,since:=[],out:=[],fuse:= -1,ops:=0,dead:=false}
theorem Bys.tail {l:List Int} (h:Bys l):Bys l.tail:=fun z hz=>h z (List.mem_of_mem_tail hz)
theorem outD_ok {D:Dv} (h:D.ok) {l:List Int} (hl:Bys l):(outD D l).ok:=⟨h.n8,h.n4,h.now,h.sure,h.bnow,h.bsure,h.bout.app hl,h.since,h.fuse⟩
theorem newD_ok {L:List Int} (h:Bys L) (n:Nat) (hl:L.length=n*256) (h8:8≤n) (h4:n≤4096):(newD L).ok:=by
 have e:L.length/256=n:=by omega
 refine ⟨?_,?_,?_,?_,h,h,fun z hz=>by simp [newD] at hz,fun x hx=>by simp [newD] at hx,by simp [newD]⟩
 all_goals (simp only [newD];rw [e];assumption)
theorem Own.cur {base g n cap:Nat} {w:World} {zs:List Int} (h:Own base w (.slice (some ⟨g,0,none⟩) n cap) zs):
  ∃cur:Array Value,w.heap[g]?=some (.cells cur 5 (0,0))∧n≤cap∧cap≤maxLen∧cur.size=cap∧cur.toList.take n=zs.map (Value.int .u8)∧n=zs.length:=by
 obtain ⟨h1,⟨h',_⟩|⟨g',cap',cur,h',_,hg,hn,hm,hs,ht⟩⟩:=h
 ·simp at h'
 ·simp only [Value.slice.injEq,Option.some.injEq,Addr.mk.injEq,and_true] at h';obtain ⟨rfl,rfl,rfl⟩:=h';exact ⟨cur,hg,hn,hm,by simpa using hs,by simpa using ht,rfl⟩
theorem Below.drewN {B:Nat} {a w:World} (h:Below B a w) (n:Nat):Below B a (w.drewN n):=⟨h.os,h.tape,h.output,h.size,h.block⟩
theorem Row.low {w wr:World} {b off cap B:Nat} {zs:List Int} (h:Row w (some ⟨b,off,none⟩) cap zs) (hb:b<B) (k:Below B w wr):Row wr (some ⟨b,off,none⟩) cap zs:=by
 obtain ⟨h1,h2,h3,h4⟩:=h;refine ⟨h1,h2,h3,?_⟩;rcases h4 with h4|⟨b',off',ha,hc⟩
 ·exact .inl h4
 ·simp only [Option.some.injEq,Addr.mk.injEq,and_true] at ha;obtain ⟨rfl,rfl⟩:=ha;exact .inr ⟨b,off,rfl,fun i hi=>(k.cell (p:=⟨b,off+i,none⟩) hb).trans (hc i hi)⟩
end Go.Proofs.YtjllhcifmfhkmaaGreat.Oct
