/- Part of a proof. -/
import Derived.Test.YtaijfhadecennaaGreatR
import Derived.Test.YtaijfhadecennaaGreatZl
import Derived.Laws.CopyOwn
namespace Go.Proofs.YtaijfhadecennaaGreat.Oct
open Go.RowKit
theorem vR {w w':World} {B e size n:Nat} {v:Value} {xs:List Value} (h:w.ownsRow B e size v n xs) (hb:Below w.heap.size w w'):w'.ownsRow B e size v n xs:=by
 obtain ⟨h0,⟨rfl,h1⟩|⟨g,cap,cur,rfl,hg,hc,hr⟩⟩:=h
 ·exact ⟨h0,.inl ⟨rfl,h1⟩⟩
 ·have hlt:g<w.heap.size:=by
   by_cases hlt:g<w.heap.size
   ·exact hlt
   ·rw [Array.getElem?_eq_none (by omega)] at hc;exact absurd hc (by simp)
  exact ⟨h0,.inr ⟨g,cap,cur,rfl,hg,(hb.block g hlt).trans hc,hr⟩⟩
def RowI (w:World) (a:Option Addr) (cap:Nat) (zs:List Int):Prop:=
 zs.length<=cap/\cap<=maxLen/\(zs=[]\/∃b off,a=some ⟨b,off,none⟩/\∀i,i<zs.length->w.cell? ⟨b,off+i,none⟩=some (.int .i64 (zs.getD i 0)))
theorem RowI.below {w w':World} {a:Option Addr} {cap:Nat} {zs:List Int} (h:RowI w a cap zs) (k:Below w.heap.size w w'):RowI w' a cap zs:=by
 obtain ⟨h2,h3,h4⟩:=h;refine ⟨h2,h3,?_⟩;rcases h4 with h4|⟨b,off,ha,hc⟩
 ·exact .inl h4
 ·exact .inr ⟨b,off,ha,fun i hi=>(k.cell (p:=⟨b,off+i,none⟩) (block_lt_of_cell (hc i hi))).trans (hc i hi)⟩
theorem RowI.at' {w:World} {a:Option Addr} {cap:Nat} {zs:List Int} (h:RowI w a cap zs) (i:Nat) (hi:i<zs.length):∃b off,a=some ⟨b,off,none⟩/\w.cell? ⟨b,off+i,none⟩=some (.int .i64 (zs.getD i 0)):=by
 rcases h.2.2 with h|⟨b,off,rfl,hc⟩
 ·rw [h] at hi;exact absurd hi (by simp)
 ·exact ⟨b,off,rfl,hc i hi⟩
theorem info3:(Tryz.prog.info? 3).map (fun i=>(i.zero,i.size,i.bytes))=some (some (.int .i64 0),1,8):=by kernel_rfl
def OwnI (base:Nat) (w:World) (v:Value) (zs:List Int):Prop:=w.ownsRow base 3 1 v zs.length (zs.map (Value.int .i64))
theorem OwnI.lt' {base:Nat} {w:World} {v:Value} {zs:List Int} (h:OwnI base w v zs) (k:Nat) (hk:v.ownBlock=some k):base<=k:=(World.ownsRow.lt h k hk).1
theorem OwnI.row {base:Nat} {w:World} {v:Value} {zs:List Int} (h:OwnI base w v zs):∃a cap,v=.slice a zs.length cap/\RowI w a cap zs:=by
 obtain ⟨_,⟨rfl,h0⟩|⟨g,cap,cur,rfl,hg,hc,hn,hm,hs,ht⟩⟩:=id h
 ·refine ⟨none,0,by rw [h0],by omega,by simp [maxLen],.inl (qE h0)⟩
 ·refine ⟨_,cap,rfl,hn,hm,.inr ⟨g,0,rfl,fun i hi=>?_⟩⟩;have:=World.ownsRow.cellAt h i (by omega);rw [qT,this];simp [hi]
theorem vU {B k:Nat} {xs:List Int} {c:Int} {w wr w1:World} {v v':Value} {o:Obj} (hk:xs.length=k) (hB:B<=wr.heap.size)
  (hown:OwnI B wr v xs) (hnx:Below B w wr)
  (hown':w1.ownsRow B 3 1 v' (k+1) (xs.map (Value.int .i64)++[.int .i64 c])) (hgrow:(wr.alloc o).grownBy w1 v.ownBlock):
  OwnI B w1 v' (xs++[c])/\Below B w w1:=by
 refine ⟨?_,(hnx.alloc hB o).grown hgrow (by simp;omega) (fun j hj=>hown.lt' j hj)⟩;unfold OwnI;rw [jN,qI,hk];exact hown'
def ned (n:Nat):Nat:=(n+243)/244
def nedI (n:Int):Int:=if n<1 then 0 else (n-1)/244+1
theorem YJ (n:Nat):nedI n=ned n:=by
 unfold nedI ned;split<;>omega
def prt (zs:List Int) (i:Nat):List Int:=(zs.drop (i*244)).take 244
def nxt (pg:List Int) (i:Nat):Int:=if i+1<pg.length then pg.getD (i+1) 0 else 0
def cpg (zs pg:List Int) (i:Nat):Pg:=⟨5,0,(prt zs i).length,nums 4 (nxt pg i).toNat++prt zs i⟩
def ctL (zs pg:List Int):List (List Int):=(List.range pg.length).map fun i=>sealL (cpg zs pg i)
def CtOk (pg:List Int):Prop:=∀i,i<pg.length->(2<=pg.getD i 0/\pg.getD i 0<4096)/\∀k,k<i->pg.getD k 0≠pg.getD i 0
def ctB (pg:List Int):Bool:=decide (∀i,i<pg.length->(2<=pg.getD i 0/\pg.getD i 0<4096)/\∀k,k<i->pg.getD k 0≠pg.getD i 0)
theorem ctB_iff {pg:List Int}:ctB pg=true↔CtOk pg:=xO
def ctE (zs pg:List Int):Int:=if pg.length=ned zs.length then (if ctB pg then (if zs.length<=1048576 then 0 else 3) else 1) else 1
def ctZ (zs pg:List Int):List (List Int):=if ctE zs pg=0 then ctL zs pg else []
theorem uI (zs:List Int) (i:Nat):(prt zs i).length=min 244 (zs.length-i*244):=by simp [prt]
theorem prt_bys {zs:List Int} (h:Bys zs) (i:Nat):Bys (prt zs i):=fun z hz=>h z (jV (jU hz))
theorem nxt_in {pg:List Int} (h:CtOk pg) (i:Nat):0<=nxt pg i/\nxt pg i<4096:=by
 unfold nxt;split
 ·next h1=>have:=(h (i+1) h1).1;omega
 ·omega
theorem GN {zs pg:List Int} (h:Bys zs) (i:Nat):Bys (cpg zs pg i).body:=(zR _ _).app (prt_bys h i)
theorem cpg_len (zs pg:List Int) (i:Nat):(cpg zs pg i).body.length=4+(prt zs i).length:=by simp [cpg,yS]
theorem cpg_ok (zs pg:List Int) (i:Nat):sealE (cpg zs pg i)=0:=by
 have hp:=uI zs i;unfold sealE argP;rw [jE (by refine ⟨⟨by show (1:Int)<=5;omega,by show (5:Int)<=5;omega⟩,⟨by show (0:Int)<=0;omega,by show (0:Int)<=255;omega⟩,?_,?_⟩<;>(show _<=_;simp only [cpg];omega)),if_pos rfl,if_pos (by rw [cpg_len];omega)]
theorem cpg_seal (zs pg:List Int) (i:Nat):sealZ (cpg zs pg i)=sealL (cpg zs pg i):=by unfold sealZ;rw [if_pos (cpg_ok zs pg i)]
theorem uU (zs pg:List Int) (i:Nat):(sealL (cpg zs pg i)).length=256:=ZX (by rw [cpg_len,uI];omega)
theorem XB (zs pg:List Int):(ctL zs pg).length=pg.length:=by simp [ctL]
def nx (P:Pg):Int:=getI P.body 0 4
def ptB (P:Pg):Bool:=decide (P.kind=5)&&(decide (P.level=0)&&(decide (1<=P.count/\P.count<=244)&&(decide (nx P≠1/\nx P<4096/\(nx P≠0->P.count=244))&&nouB (P.body.drop (4+P.count.toNat)))))
def ptE (zs:List Int):Int:=if opE zs=0 then (if ptB (opP zs) then 0 else 4) else opE zs
def ptL (zs:List Int):List Int:=if ptE zs=0 then ((opP zs).body.drop 4).take (opP zs).count.toNat else []
def ptN (zs:List Int):Int:=if ptE zs=0 then nx (opP zs) else 0
theorem vN {zs:List Int} (ho:opE zs=0) (h:ptB (opP zs)=false):ptE zs=4/\ptL zs=[]/\ptN zs=0:=by
 have e:ptE zs=4:=by unfold ptE;rw [if_pos ho,h];rfl
 unfold ptL ptN;rw [e];exact ⟨rfl,rfl,rfl⟩
theorem gP {zs:List Int} (ho:opE zs≠0):ptE zs=opE zs/\ptL zs=[]/\ptN zs=0:=by
 have e:ptE zs=opE zs:=if_neg ho;unfold ptL ptN;rw [e,if_neg ho,if_neg ho];exact ⟨rfl,rfl,rfl⟩
structure Dv where
 n:Nat
 now:List Int
 sure:List Int
 since:List (Nat × List Int)
 out:List Int
 fuse:Int
 ops:Nat
 dead:Bool
def bitAt (c:Int) (s:Nat):Bool:=decide (c/2^s%2=1)
def ontoS (L:List Int) (pg:Nat) (b:List Int) (c:Int) (s:Nat):List Int:=
 L.mapIdx fun i x=>if i/256=pg/\i%256/64<s/\bitAt c (i%256/64)=true then b.getD (i%256) 0 else x
def onto (L:List Int) (pg:Nat) (b:List Int) (c:Int):List Int:=ontoS L pg b c 4
theorem zP (L:List Int) (pg:Nat) (b:List Int) (c:Int) (s:Nat):(ontoS L pg b c s).length=L.length:=by simp [ontoS]
theorem XJ (L:List Int) (pg:Nat) (b:List Int) (c:Int):(onto L pg b c).length=L.length:=zP ..
theorem QJ (L:List Int) (pg:Nat) (b:List Int) (c:Int) (s i:Nat) (hi:i<L.length):
  (ontoS L pg b c s).getD i 0=if i/256=pg/\i%256/64<s/\bitAt c (i%256/64)=true then b.getD (i%256) 0 else L.getD i 0:=by
 unfold ontoS;simp only [jA,List.getElem?_mapIdx,jC hi,yN,qJ]
theorem ontoS_zero (L:List Int) (pg:Nat) (b:List Int) (c:Int):ontoS L pg b c 0=L:=by
 refine yZ (zP ..) fun i hi=>?_
 rw [zP] at hi;rw [QJ _ _ _ _ _ _ hi,if_neg (by omega)]
theorem ontoS_skip (L:List Int) (pg:Nat) (b:List Int) (c:Int) (s:Nat) (hs:bitAt c s=false):ontoS L pg b c (s+1)=ontoS L pg b c s:=by
 refine yZ (by simp [zP]) fun i hi=>?_
 rw [zP] at hi;rw [QJ _ _ _ _ _ _ hi,QJ _ _ _ _ _ _ hi];by_cases h:i%256/64=s
 ·rw [if_neg (by rw [h,hs];simp),if_neg (by omega)]
 ·have e:(i%256/64<s+1)=(i%256/64<s):=propext (by omega);simp only [e]
def lay' (L:List Int) (off:Nat) (cs:List Int):List Int:=L.take off++(cs++L.drop (off+cs.length))
theorem lay'_len (L:List Int) (off:Nat) (cs:List Int) (h:off+cs.length<=L.length):(lay' L off cs).length=L.length:=by simp [lay'];omega
theorem lay'_at (L:List Int) (off:Nat) (cs:List Int) (h:off+cs.length<=L.length) (i:Nat):
  (lay' L off cs).getD i 0=if off<=i/\i<off+cs.length then cs.getD (i-off) 0 else L.getD i 0:=by
 unfold lay';have hl:(L.take off).length=off:=by simp;omega
 rw [QM,hl];by_cases h1:i<off
 ·rw [if_pos h1,if_neg (by omega)];simp [h1]
 ·rw [if_neg h1,QM];by_cases h2:i-off<cs.length
  ·rw [if_pos h2,if_pos (by omega)]
  ·rw [if_neg h2,if_neg (by omega)];simp only [jA,qO];rw [show off+cs.length+(i-off-cs.length)=i by omega]
def sect (b:List Int) (s:Nat):List Int:=(b.drop (s*64)).take 64
theorem ZW {b:List Int} (hb:b.length=256) {s:Nat} (hs:s<4):(sect b s).length=64:=by simp [sect];omega
theorem sect_at {b:List Int} (i s:Nat) (hi:i<64):(sect b s).getD i 0=b.getD (s*64+i) 0:=by
 simp [sect,hi]
theorem ontoS_lay (L:List Int) (pg:Nat) (b:List Int) (c:Int) (s:Nat) (hb:b.length=256) (h4:s<4) (hL:pg*256+256<=L.length) (hs:bitAt c s=true):
  ontoS L pg b c (s+1)=lay' (ontoS L pg b c s) (pg*256+s*64) (sect b s):=by
 have hl:(sect b s).length=64:=ZW hb h4;have hfit:pg*256+s*64+(sect b s).length<=(ontoS L pg b c s).length:=by rw [zP,hl];omega
 refine yZ (by rw [lay'_len _ _ _ hfit,zP,zP]) fun i hi=>?_
 rw [zP] at hi;rw [lay'_at _ _ _ hfit,QJ _ _ _ _ _ _ hi,QJ _ _ _ _ _ _ hi,hl];by_cases h:pg*256+s*64<=i/\i<pg*256+s*64+64
 ·have h1:i/256=pg:=by omega
  have h2:i%256/64=s:=by omega
  rw [if_pos h,sect_at _ _ (by omega),if_pos ⟨h1,by omega,by rw [h2];exact hs⟩]
  congr 1
  omega
 ·rw [if_neg h];by_cases h1:i/256=pg
  ·have h2:¬i%256/64=s:=by omega
   have e:(i%256/64<s+1)=(i%256/64<s):=propext (by omega);simp only [e]
  ·rw [if_neg (by omega),if_neg (by omega)]
theorem onto_bys {L b:List Int} (hL:Bys L) (hb:Bys b) (pg:Nat) (c:Int) (s:Nat):Bys (ontoS L pg b c s):=by
 intro z hz;obtain ⟨i,hi,rfl⟩:=xV hz;have hi':i<L.length:=by rw [zP] at hi;exact hi
 have:=QJ L pg b c s i hi';rw [jA,jC hi] at this;simp only [qJ] at this;rw [this];split
 ·exact hb.at _
 ·exact hL.at _
def fallK (L:List Int) (l:List (Nat × List Int)) (ch:List Int):Nat->List Int
 |0=>L
 |k+1=>onto (fallK L l ch k) (l.getD k (0,[])).1 (l.getD k (0,[])).2 (if k<ch.length then ch.getD k 0 else 15)
theorem zX (L:List Int) (l:List (Nat × List Int)) (ch:List Int) (k:Nat):(fallK L l ch k).length=L.length:=by
 induction k with
 |zero=>rfl
 |succ k ih=>rw [fallK,XJ,ih]
def pageOf (L:List Int) (pg:Nat):List Int:=(L.drop (pg*256)).take 256
structure Dv.ok (D:Dv):Prop where
 n8:8<=D.n
 n4:D.n<=4096
 now:D.now.length=D.n*256
 sure:D.sure.length=D.n*256
 bnow:Bys D.now
 bsure:Bys D.sure
 bout:Bys D.out
 since:∀x∈D.since,x.1<D.n/\x.2.length=256/\Bys x.2
 fuse: -1<=D.fuse
theorem vY {L:List Int} {l:List (Nat × List Int)} (ch:List Int) (hL:Bys L) (hl:∀x∈l,Bys x.2) (k:Nat):Bys (fallK L l ch k):=by
 induction k with
 |zero=>exact hL
 |succ k ih=>
  rw [fallK];refine onto_bys ih ?_ _ _ _;rw [jA];cases h:l[k]? with
  |none=>intro z hz;simp at hz
  |some x=>exact hl x (List.mem_of_getElem? h)
def opD (D:Dv):Dv:={D with ops:=D.ops+1,fuse:=if 0<D.fuse then D.fuse-1 else D.fuse,out:=D.out.tail}
def oc (D:Dv):Int:=D.out.getD 0 0%3
def dieD (D:Dv):Dv:={D with ops:=D.ops+1,dead:=true}
def wrD (D:Dv) (pg:Nat) (b:List Int):Dv:={D with now:=onto D.now pg b 15,since:=D.since++[(pg,b)]}
def setD (D:Dv):Dv:={D with sure:=D.now,since:=[]}
def writeD (D:Dv) (pg:Nat) (b:List Int):Dv:=
 if D.dead then D else if D.fuse=0 then wrD (dieD D) pg b else if oc D=1 then opD D else wrD (opD D) pg b
def syncD (D:Dv):Dv:=if D.dead then D else if D.fuse=0 then dieD D else if oc D=1 then opD D else setD (opD D)
def readD (D:Dv):Dv:=if D.dead then D else if D.fuse=0 then dieD D else opD D
def saysD (D:Dv):Int:=if D.dead then 7 else if D.fuse=0 then 7 else if oc D=0 then 0 else 7
def tellsD (D:Dv):Bool:=!D.dead&&!decide (D.fuse=0)&&!decide (oc D=1)
def outD (D:Dv) (l:List Int):Dv:={D with out:=D.out++l}
def newD (L:List Int):Dv:={n:=L.length/256,now:=L,sure:=L,since:=[],out:=[],fuse:= -1,ops:=0,dead:=false}
def crashD (D:Dv) (ch:List Int):Dv:=newD (fallK D.sure D.since ch D.since.length)
theorem Bys.tail {l:List Int} (h:Bys l):Bys l.tail:=fun z hz=>h z (List.mem_of_mem_tail hz)
theorem vW {D:Dv} (h:D.ok):(opD D).ok:=⟨h.n8,h.n4,h.now,h.sure,h.bnow,h.bsure,h.bout.tail,h.since,by have:=h.fuse;simp only [opD];split<;>omega⟩
theorem UX {D:Dv} (h:D.ok):(dieD D).ok:=⟨h.n8,h.n4,h.now,h.sure,h.bnow,h.bsure,h.bout,h.since,h.fuse⟩
theorem gE {D:Dv} (h:D.ok):(setD D).ok:=⟨h.n8,h.n4,h.now,h.now,h.bnow,h.bnow,h.bout,fun x hx=>by simp [setD] at hx,h.fuse⟩
theorem VC {D:Dv} (h:D.ok) {pg:Nat} {b:List Int} (hp:pg<D.n) (hb:b.length=256) (hy:Bys b):(wrD D pg b).ok:=
 ⟨h.n8,h.n4,by simp only [wrD,XJ];exact h.now,h.sure,onto_bys h.bnow hy _ _ _,h.bsure,h.bout,fun x hx=>by
  rcases List.mem_append.1 hx with hx|hx
  ·exact h.since x hx
  ·simp at hx;subst hx;exact ⟨hp,hb,hy⟩,h.fuse⟩
theorem outD_ok {D:Dv} (h:D.ok) {l:List Int} (hl:Bys l):(outD D l).ok:=⟨h.n8,h.n4,h.now,h.sure,h.bnow,h.bsure,h.bout.app hl,h.since,h.fuse⟩
theorem newD_ok {L:List Int} (h:Bys L) (n:Nat) (hl:L.length=n*256) (h8:8<=n) (h4:n<=4096):(newD L).ok:=by
 have e:L.length/256=n:=by omega
 refine ⟨?_,?_,?_,?_,h,h,fun z hz=>by simp [newD] at hz,fun x hx=>by simp [newD] at hx,by simp [newD]⟩
 all_goals (simp only [newD];rw [e];assumption)
theorem FH {D:Dv} (h:D.ok) (ch:List Int):(crashD D ch).ok:=
 newD_ok (vY ch h.bsure (fun x hx=>(h.since x hx).2.2) _) D.n (by rw [zX,h.sure]) h.n8 h.n4
theorem XF {D:Dv} (h:D.ok) {pg:Nat} {b:List Int} (hp:pg<D.n) (hb:b.length=256) (hy:Bys b):(writeD D pg b).ok:=by
 unfold writeD;split
 ·exact h
 ·split
  ·exact VC (UX h) hp hb hy
  ·split
   ·exact vW h
   ·exact VC (vW h) hp hb hy
theorem syncD_ok {D:Dv} (h:D.ok):(syncD D).ok:=by
 unfold syncD;split
 ·exact h
 ·split
  ·exact UX h
  ·split
   ·exact vW h
   ·exact gE (vW h)
theorem readD_ok {D:Dv} (h:D.ok):(readD D).ok:=by
 unfold readD;split
 ·exact h
 ·split
  ·exact UX h
  ·exact vW h
theorem size5:(Tryz.prog.info? 5).map (·.size)=some 1:=by kernel_rfl
theorem Own.cur {base g n cap:Nat} {w:World} {zs:List Int} (h:Own base w (.slice (some ⟨g,0,none⟩) n cap) zs):
  ∃cur:Array Value,w.heap[g]?=some (.cells cur 5 (0,0))/\n<=cap/\cap<=maxLen/\cur.size=cap/\cur.toList.take n=zs.map (Value.int .u8)/\n=zs.length:=by
 obtain ⟨h1,⟨h',_⟩|⟨g',cap',cur,h',_,hg,hn,hm,hs,ht⟩⟩:=h
 ·simp at h'
 ·simp only [Value.slice.injEq,jQ,Addr.mk.injEq,and_true] at h';obtain ⟨rfl,rfl,rfl⟩:=h';exact ⟨cur,hg,hn,hm,by simpa using hs,by simpa using ht,rfl⟩
theorem own_whole {g n cap:Nat} {w:World} {zs cs:List Int} (h:Own 0 w (.slice (some ⟨g,0,none⟩) n cap) zs) (hl:cs.length=n):
  ∃cur:Array Value,w.heap[g]?=some (.cells cur 5 (0,0))/\(cs.map (Value.int .u8)).length<=cur.size/\Own 0 (w.setRow g (cur.toList.take 0++(cs.map (Value.int .u8)++cur.toList.drop (0+(cs.map (Value.int .u8)).length))).toArray) (.slice (some ⟨g,0,none⟩) n cap) cs:=by
 obtain ⟨cur,hcur,hn,hm,hs,ht,hz⟩:=h.cur;subst hl;refine ⟨cur,hcur,by simp;omega,?_⟩;unfold Own;have hcl:cur.toList.length=cap:=by simpa using hs
 refine ⟨by simp,.inr ⟨g,cap,_,rfl,jT _,setRow_heap w g cur _ _ _ hcur,hn,hm,by simp;omega,?_⟩⟩;simp
theorem Below.drewN {B:Nat} {a w:World} (h:Below B a w) (n:Nat):Below B a (w.drewN n):=⟨h.os,h.tape,h.output,h.size,h.block⟩
theorem Row.low {w wr:World} {b off cap B:Nat} {zs:List Int} (h:Row w (some ⟨b,off,none⟩) cap zs) (hb:b<B) (k:Below B w wr):Row wr (some ⟨b,off,none⟩) cap zs:=by
 obtain ⟨h1,h2,h3,h4⟩:=h;refine ⟨h1,h2,h3,?_⟩;rcases h4 with h4|⟨b',off',ha,hc⟩
 ·exact .inl h4
 ·simp only [jQ,Addr.mk.injEq,and_true] at ha;obtain ⟨rfl,rfl⟩:=ha;exact .inr ⟨b,off,rfl,fun i hi=>(k.cell (p:=⟨b,off+i,none⟩) hb).trans (hc i hi)⟩
end Go.Proofs.YtaijfhadecennaaGreat.Oct
