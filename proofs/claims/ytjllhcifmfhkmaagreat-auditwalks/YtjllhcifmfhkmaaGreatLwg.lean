/- Part of a proof. -/
import Derived.Test.YtjllhcifmfhkmaaGreatAuw
import Derived.Test.YtjllhcifmfhkmaaGreatGc
import Derived.ArgAppend
import Derived.Maps.AppendAt
import Derived.Test.YtjllhcifmfhkmaaGreatBw
import Derived.Test.YtjllhcifmfhkmaaGreatAum
import Derived.Deep.DeepCutAuto
import Derived.Deep.CutBlock
namespace Go.Proofs.YtjllhcifmfhkmaaGreat.Oct
open Go.RowKit
theorem rd_out (L o:List Int):∀k,rdK (outD (newD L) o) k={n:=L.length/256,now:=L,sure:=L,since:=[],out:=o.drop k,fuse:= -1,ops:=k,dead:=false}
 |0=>by simp [rdK,outD,newD]
 |k+1=>by
  rw [rdK,rd_out L o k];simp [readD,opD]
theorem tells_out (L o:List Int) (k:Nat):tellsD (rdK (outD (newD L) o) k)=!decide (o.getD k 0%3=1):=by
 rw [rd_out];simp [tellsD,oc,List.getD_eq_getElem?_getD]
theorem out_nil (L:List Int):outD (newD L) []=newD L:=by simp [outD,newD]
theorem tells_new (L:List Int) (k:Nat):tellsD (rdK (newD L) k)=true:=by
 rw [←out_nil,tells_out];simp
theorem ops_new (L:List Int) (k:Nat):(rdK (newD L) k).ops=k:=by
 rw [←out_nil,rd_out]
def OnE (w:World) (d:Nat) (FD:Nat→Prop) (L:List Int) (N:Nat) (e:Ending) (w':World):Prop:=
 ∃k FD',(k≤N+2∧Dev w' d FD' (rdK (newD L) k)∧Step FD FD' w w')∧((oaE L=0∧∃v,e=.returned (.tuple #[v,.int .i64 0])∧RepP FD' (fun k=>FD k∨w.heap.size≤k) w' v (oaR L))∨(oaE L=8∧e=.returned (.tuple #[.agg rpt0,.int .i64 8])))
theorem aopen_new {w:World} {d N:Nat} {FD:Nat→Prop} {L:List Int} (hd:Dev w d FD (newD L)) (hN:L.length=N*256):
  Calls Tryz.prog 11 #[.pointer (some ⟨d,0,none⟩)] w fun e w'=>OnE w d FD L N e w':=by
 refine (aopen_p (D0:=newD L) (L:=L) (N:=N) hd rfl (by show L.length/256=N;omega) (by show 0≤_;omega)).mono ?_;rintro e w' (⟨h1,v,h2,k,FD',h3,h4,h5,-,h6⟩|⟨h1,h2,k,FD',h4,h5,-,h6⟩|⟨-,k,FD',-,-,-,h,-⟩)
 ·exact ⟨k,FD',⟨h4,h5,h6⟩,.inl ⟨h1,v,h2,h3⟩⟩
 ·exact ⟨k,FD',⟨h4,h5,h6⟩,.inr ⟨h1,h2⟩⟩
 ·rw [tells_new] at h;cases h
theorem awalk_new {w:World} {d N:Nat} {FD:Nat→Prop} {L:List Int} {k0:Nat} (hk0:k0≤100000) (hd:Dev w d FD (rdK (newD L) k0)) (hN:L.length=N*256) (hb:Bys L) (hN4:N≤4096) (S:Sp):
  Calls Tryz.prog 12 #[.pointer (some ⟨d,0,none⟩),spV S] w fun e w'=>∃k FD',(k≤k0+N∧Dev w' d FD' (rdK (newD L) k)∧Step FD FD' w w')∧((waE L S=0∧∃v,e=.returned (.tuple #[v,.int .i64 0])∧RepP FD' (fun k=>FD k∨w.heap.size≤k) w' v (waR L S))∨(¬waE L S=0∧e=.returned (.tuple #[.agg rpt0,.int .i64 (waE L S)]))):=by
 have hp:pgN L≤4096:=by unfold pgN;omega
 have hrk:=rdK_is (newD L) k0;cases hS:okS S with
 |false=>
  have hw:waE L S=1:=by unfold waE;rw [hS];rfl
  refine (walk_arg S hS).mono ?_;rintro e w' ⟨rfl,hbl⟩;exact ⟨k0,FD,⟨by omega,hd.below hbl,Step.ofB hbl⟩,.inr ⟨by rw [hw];decide,by rw [hw]⟩⟩
 |true=>
  refine (walk_ok (D0:=rdK (newD L) k0) (L:=L) (N:=N) hd (by rw [hrk.1];rfl) (by rw [hrk.2.1];show L.length/256=N;omega) (by rw [ops_new];omega) S hS).mono ?_;rintro e w' (⟨h,-⟩|⟨-,⟨r,v,h1,h2,k,FD',h3,h4,h5,-,h6⟩|⟨h1,h2,k,FD',h4,h5,-,h6⟩|⟨-,k,FD',-,-,-,h,-⟩⟩)
  ·rw [hS] at h;cases h
  ·rw [rdK_add] at h5;rcases su_wa hb hp hS with ⟨q1,q2⟩|⟨q1,q2⟩
   ·exact ⟨k0+k,FD',⟨by omega,h5,h6⟩,.inl ⟨q1,v,h1,by rw [q2.one h2];exact h3⟩⟩
   ·exact absurd h2 (q2 r)
  ·rw [rdK_add] at h5;rcases su_wa hb hp hS with ⟨q1,q2⟩|⟨q1,q2⟩
   ·exact absurd q2 (h2 _)
   ·exact ⟨k0+k,FD',⟨by omega,h5,h6⟩,.inr ⟨by rw [q1];decide,by rw [q1];exact h1⟩⟩
  ·rw [rdK_add,tells_new] at h;cases h
def BuildC:Prop:=∀(w:World) (N m q c1 c2:Nat) (a1 a2:Option Addr) (zs st:List Int) (gen:Int),Row w a1 c1 zs→zs.length=m→Row w a2 c2 st→(a2=none→c2=0)→st.length=q→8≤N→N≤200→m≤150→q≤1000→m+(m+19)/20+ned q+4≤N→
    Calls Tryz.prog 13 #[.int .i64 (N:Nat),.slice a1 m c1,.slice a2 q c2,.int .i64 gen] w fun e w'=>∃g c L S,e=.returned (.tuple #[.slice (some ⟨g,0,none⟩) (N*256) c,spV S])∧Own w.heap.size w' (.slice (some ⟨g,0,none⟩) (N*256) c) L∧Snd N L S zs st∧Below w.heap.size w w'
section
attribute [local go_sem ↓] StP_eq LdP_eq
end
theorem rows3 (w:World):Row ((w.alloc (.cells #[.int .u8 1,.int .u8 2,.int .u8 3] 5)).alloc (.cells #[.int .u8 9] 5)) (some ⟨w.heap.size,0,none⟩) 3 [1,2,3]∧Row ((w.alloc (.cells #[.int .u8 1,.int .u8 2,.int .u8 3] 5)).alloc (.cells #[.int .u8 9] 5)) (some ⟨w.heap.size+1,0,none⟩) 1 [9]:=by
 have h1:=row_new w [1,2,3] 5 (bysOf rfl) (by simp [maxLen]);have h2:=row_new (w.alloc (.cells #[.int .u8 1,.int .u8 2,.int .u8 3] 5)) [9] 5 (bysOf rfl) (by simp [maxLen]);refine ⟨Row.below h1 ((Below.refl _ _).alloc (Nat.le_refl _) _),?_⟩
 simpa using h2
set_option maxHeartbeats 4000000 in
set_option maxRecDepth 20000 in
theorem awake12 (X:BuildC) (w:World):Calls Tryz.prog 9 #[] w fun e w'=>e=.returned (.bool true)∧Below w.heap.size w w':=by
 obtain ⟨r1,r2⟩:=rows3 w;have CB:=X _ 16 3 1 3 1 _ _ [1,2,3] [9] 5 r1 rfl r2 (fun e=>by cases e) rfl (by omega) (by omega) (by omega) (by omega) (by decide);have HB0:Hid (Below w.heap.size w ((w.alloc (.cells #[.int .u8 1,.int .u8 2,.int .u8 3] 5)).alloc (.cells #[.int .u8 9] 5))):=((Below.refl _ w).alloc (Nat.le_refl _) _).alloc (by simp) _;clear r1 r2;go_enter Tryz.func9,Tryz.ntmps9
 go_wp2_with fail
 refine CB.mono ?_;clear CB;rintro e w1 ⟨g,c,L,S,rfl,hoL,hsnd,hb1⟩;unfold spV;have hlen:=hsnd.len;have hrow:=(hoL.row' hsnd.bys);have HS:Hid (Snd 16 L S [1,2,3] [9]∧Below w.heap.size w w1):=⟨hsnd,HB0.out.trans (hb1.mono HB0.out.size)⟩;obtain ⟨w2,hw2⟩:∃w2,w1.alloc (.cells #[.int .i64 S.g,.int .i64 S.p,.int .i64 S.r,.int .i64 S.h,.int .i64 S.b,.int .i64 S.l,.int .i64 S.s,.int .i64 S.f] 28)=w2:=⟨_,rfl⟩;have hb2:Below w1.heap.size w1 w2:=by rw [←hw2];exact (Below.refl _ w1).alloc (Nat.le_refl _) _
 have CL:=load_yes ⟨g,0,none⟩ c L w2 (hrow.2.below hb2) 16 hlen (by omega) (by omega);rw [hlen] at CL;have hs2:w2.heap[w1.heap.size]?=some (.cells (spC' S) 28 (0,0)):=by rw [←hw2];exact heap_alloc_new w1 _
 have H2:Hid (Below w.heap.size w w2∧w2.heap[w1.heap.size]?=some (.cells (spC' S) 28 (0,0))∧L.length=16*256):=⟨HS.out.2.trans (hb2.mono HS.out.2.size),hs2,hlen⟩;obtain ⟨sb,hsb⟩:∃sb,w1.heap.size=sb:=⟨_,rfl⟩;rw [hsb] at H2;clear hoL hsnd hb1 hrow hb2 hs2 hlen HB0;rw [show 16*256=4096 from rfl] at CL;go_wp2_with fail
 refine CL.mono ?_;clear CL;rintro e w3 ⟨p,F,rfl,hdv,hb3,hF⟩;have CO:=aopen_new (N:=16) hdv H2.out.2.2;have H3:Hid (Below w2.heap.size w2 w3∧∀k,F k→w2.heap.size≤k):=⟨hb3,hF⟩;clear hdv hb3 hF hw2 hsb;go_wp2_with fail
 refine CO.mono ?_;clear CO;rintro e w4 ⟨k,FD',⟨hk,hd4,st4⟩,⟨-,v,rfl,hrep⟩|⟨h8,-⟩⟩
 ·obtain ⟨cc,-,-,hwr⟩:=HS.out.1.wr;have hor:=HS.out.1.or;rw [hwr] at hor;obtain ⟨aP,cP,aT,cT,aS,cS,aG,cG,rfl,-⟩:=hrep;have es:(oaR L).s=S:=by rw [hor]
  have ep:(oaR L).pl=0:=by rw [hor]
  have e3:(oaR L).pc.length=3:=by rw [hor];exact pcU_len _ _
  have e1:(oaR L).st.length=1:=by rw [hor];rfl
  rw [es,ep,e3,e1];unfold rpP
  have h4:w4.heap[sb]?=some (.cells (spC' S) 28 (0,0)):=by
   have hl:=heap_lt H2.out.2.1;exact ((st4.1.block sb (by have:=H3.out.1.size;omega) (fun h=>by have:=H3.out.2 _ h;omega)).trans (H3.out.1.block sb hl)).trans H2.out.2.1
  have hl4:=heap_lt h4;have hn4:¬sb=w4.heap.size:=by omega
  have hc:∀i,w4.cell? ⟨sb,i,none⟩=(spC' S)[i]?:=fun i=>cell_of_row w4 _ _ _ _ (0,0) h4
  have s0:w4.cell? ⟨sb,0,none⟩=some (.int .i64 S.g):=by rw [hc];rfl
  have s1:w4.cell? ⟨sb,1,none⟩=some (.int .i64 S.p):=by rw [hc];rfl
  have s2:w4.cell? ⟨sb,2,none⟩=some (.int .i64 S.r):=by rw [hc];rfl
  have s3:w4.cell? ⟨sb,3,none⟩=some (.int .i64 S.h):=by rw [hc];rfl
  have s4:w4.cell? ⟨sb,4,none⟩=some (.int .i64 S.b):=by rw [hc];rfl
  have s5:w4.cell? ⟨sb,5,none⟩=some (.int .i64 S.l):=by rw [hc];rfl
  have s6:w4.cell? ⟨sb,6,none⟩=some (.int .i64 S.s):=by rw [hc];rfl
  have s7:w4.cell? ⟨sb,7,none⟩=some (.int .i64 S.f):=by rw [hc];rfl
  have HE:Hid (Below w.heap.size w w4):=H2.out.1.trans ((H3.out.1.mono H2.out.1.size).trans ⟨st4.1.os,st4.1.tape,st4.1.output,st4.1.size,fun i hi=>st4.1.block i (by have:=H2.out.1.size;have:=H3.out.1.size;omega) (fun h=>by have:=H3.out.2 _ h;have:=H2.out.1.size;omega)⟩);clear hc h4 hd4 st4 hk H2 H3 HS hwr hor es ep e3 e1;go_wp2;go_ret
  exact ⟨rfl,HE.out.alloc HE.out.size _⟩
 ·rw [HS.out.1.oe] at h8;cases h8
def q00 (i:Nat):Value:=if i=9∨i=10 then .slice none 0 0 else .int .i64 0
def spC (S:Sp):Array Value:= #[.int .i64 S.g,.int .i64 S.p,.int .i64 S.r,.int .i64 S.h,.int .i64 S.b,.int .i64 S.l,.int .i64 S.s,.int .i64 S.f]
structure WkS (w wx:World) (p N:Nat) (F:Nat→Prop) (ia:Option Addr) (ic:Nat) (L:List Int) (q:Nat→Value) (W:Wk) (S:Sp):Prop where
 rw:RWA wx p F ia ic L q W
 bel:Below w.heap.size w wx
 s:wx.heap[w.heap.size]?=some (.cells (spC S) 28 (0,0))
 r:wx.heap[w.heap.size+1]?=some (.cells rp0C 41 (0,0))
 lo:∀k,F k→w.heap.size+2≤k
 kl:W.kd.length=N
 n0:0<N
 ilo:∀k,obl ia k→k<w.heap.size
section
variable {w wx w2:World} {p N ic:Nat} {F F2:Nat→Prop} {ia:Option Addr} {L:List Int} {q q2:Nat→Value} {W W2:Wk} {S:Sp}
theorem WkS.lt (h:WkS w wx p N F ia ic L q W S):w.heap.size+1<wx.heap.size:=heap_lt h.r
theorem WkS.step (h:WkS w wx p N F ia ic L q W S) (h2:RWA w2 p F2 ia ic L q2 W2) (st:Step F F2 wx w2) (hl:W2.kd.length=N):WkS w w2 p N F2 ia ic L q2 W2 S:=by
 have hlt:=h.lt;refine {rw:=h2,bel:=h.bel.trans ((st.below h.bel.size (fun k hk=>by have:=h.lo k hk;omega)).1),s:=(st.1.block _ (by omega) (fun e=>by have:=h.lo _ e;omega)).trans h.s,r:=(st.1.block _ hlt (fun e=>by have:=h.lo _ e;omega)).trans h.r,lo:=fun k hk=>?_,kl:=hl,n0:=h.n0,ilo:=h.ilo};rcases st.2 k hk with h1|h1
 ·exact h.lo k h1
 ·omega
theorem WkS.below (h:WkS w wx p N F ia ic L q W S) (hb:Below wx.heap.size wx w2):WkS w w2 p N F ia ic L q W S:=
 h.step (h.rw.below (by rw [h.kl];exact h.n0) hb) (Step.ofB hb) h.kl
theorem WkS.at (h:WkS w wx p N F ia ic L q W S):wx.cell? ⟨w.heap.size,1,none⟩=some (.int .i64 S.p)∧wx.cell? ⟨w.heap.size,2,none⟩=some (.int .i64 S.r)∧wx.cell? ⟨w.heap.size,3,none⟩=some (.int .i64 S.h)∧wx.cell? ⟨w.heap.size,4,none⟩=some (.int .i64 S.b)∧wx.cell? ⟨w.heap.size,5,none⟩=some (.int .i64 S.l)∧wx.cell? ⟨w.heap.size,6,none⟩=some (.int .i64 S.s)∧wx.cell? ⟨w.heap.size,7,none⟩=some (.int .i64 S.f):=by
 refine ⟨?_,?_,?_,?_,?_,?_,?_⟩<;>(rw [cell_of_row wx _ _ _ _ (0,0) h.s];rfl)
theorem WkS.other (h:WkS w wx p N F ia ic L q W S) {b:Nat} (hc:Ch wx.heap.size (fun x=>x=b) wx w2) (hb:w.heap.size+2≤b) (hn:¬F b):WkS w w2 p N F ia ic L q W S:=by
 have hlt:=h.lt;exact {rw:=h.rw.other hc hn (fun e=>by have:=h.ilo _ e;omega) (by rw [h.kl];exact h.n0),bel:=h.bel.trans ((hc.mono h.bel.size (fun _ _ e=>e)).below (fun k hk=>by subst hk;omega)),s:=(hc.block _ (by omega) (by omega)).trans h.s,r:=(hc.block _ hlt (by omega)).trans h.r,lo:=h.lo,kl:=h.kl,n0:=h.n0,ilo:=h.ilo}
theorem rw_start {w1:World} {gk B:Nat} (hrow:Row w1 ia ic L) (hil:L.length=256*N) (h4:N≤4096) (ho:Own B w1 (.slice (some ⟨gk,0,none⟩) N N) (List.replicate N 0)) (hi:∀k,obl ia k→k<B) (hB:B≤w1.heap.size):
  RWA (w1.alloc (.cells (wcs ia L.length ic gk N N q00 none 0 0 none 0 0 false) 96)) w1.heap.size (fun k=>k=w1.heap.size∨k=gk) ia ic L q00 (wk0 N):=by
 have hbl:=(Below.refl w1.heap.size w1).alloc (Nat.le_refl _) (.cells (wcs ia L.length ic gk N N q00 none 0 0 none 0 0 false) 96);have hgk:=ho.lt2;have hlen:(wk0 N).kd.length=N:=by simp [wk0]
 have no:∀k,¬obl (none:Option Addr) k:=fun k ⟨x,e,_⟩=>by cases e
 refine ⟨gk,N,none,none,0,0,?_⟩;refine {lt:=fun k hk=>?_,fp:=.inl rfl,fk:=.inr rfl,fP:=fun k hk=>absurd hk (no k),fT:=fun k hk=>absurd hk (no k),cells:=?_,kd:=?_,pc:=⟨rfl,.inl ⟨rfl,rfl⟩⟩,tx:=⟨rfl,.inl ⟨rfl,rfl⟩⟩,kb:=fun z hz=>?_,tb:=fun z hz=>(by cases hz),img:=hrow.below hbl,inF:=fun k hk e=>?_,il:=by rw [hlen];exact hil,kl:=by rw [hlen];exact h4,pk:=by omega,pP:=no _,pT:=no _,kP:=no _,kT:=no _,PT:=fun k hk=>absurd hk (no k)}
 ·rw [heap_alloc_size];rcases hk with rfl|rfl<;>omega
 ·rw [hlen];exact heap_alloc_new w1 _
 ·rw [hlen];exact (ho.zero).kept (hbl.block gk hgk.2)
 ·rw [(List.mem_replicate.1 hz).2];omega
 ·have:=hi k hk;rcases e with rfl|rfl<;>omega
theorem RWA.setQ (h:RWA wx p F ia ic L q W) (i j:Nat) (hij:(i=13∧j=9)∨(i=14∧j=10)∨(i=10∧j=8)∨(i=15∧j=11)) (v:Value):RWA (wx.setCell ⟨p,i,none⟩ v) p F ia ic L (fun k=>if k=j then v else q k) W:=by
 obtain ⟨gk,ck,aP,aT,cP,cT,h⟩:=h;have k:∀g,¬g=p→(wx.setCell ⟨p,i,none⟩ v).heap[g]?=wx.heap[g]?:=fun g hg=>Below.heap_setCell wx ⟨p,i,none⟩ _ g hg
 refine ⟨gk,ck,aP,aT,cP,cT,?_⟩
 exact {h with
  lt:=fun g hg=>by rw [size_setCell];exact h.lt g hg
  cells:=by
   rw [setCell_heap _ _ _ _ _ _ _ h.cells];rcases hij with ⟨rfl,rfl⟩|⟨rfl,rfl⟩|⟨rfl,rfl⟩|⟨rfl,rfl⟩<;>rfl
  kd:=h.kd.kept (k gk (fun e=>h.pk e.symm))
  pc:=h.pc.keepO (fun g hg=>k g (fun e=>h.pP (e▸hg)))
  tx:=h.tx.keepO (fun g hg=>k g (fun e=>h.pT (e▸hg)))
  img:=h.img.keepO (fun g hg=>k g (fun e=>h.inF g hg (e▸h.fp)))}
theorem RWA.frz (h:RWA wx p F ia ic L q W) (i:Nat):wx.frozen? ⟨p,i,none⟩=false:=by
 obtain ⟨_,_,_,_,_,_,h⟩:=h;exact h.frz i
theorem RWA.c13 (h:RWA wx p F ia ic L q W):wx.cell? ⟨p,13,none⟩=some (q 9)∧wx.cell? ⟨p,14,none⟩=some (q 10)∧wx.cell? ⟨p,10,none⟩=some (q 8)∧wx.cell? ⟨p,15,none⟩=some (q 11):=by
 obtain ⟨_,_,_,_,_,_,h⟩:=h;refine ⟨?_,?_,?_,?_⟩<;>(rw [cell_of_row wx p _ _ _ (0,0) h.cells];rfl)
end
theorem wa_no {L:List Int} {S:Sp} (hS:okS S=true) (hp:S.p=(pgN L:Int)) (h:waB L S=false):waE L S=8∧waR L S=rp0:=by
 have e:waE L S=8:=by unfold waE;rw [if_pos hS,if_pos hp,h];rfl
 refine ⟨e,?_⟩;unfold waR;rw [if_neg (by rw [e];decide)]
theorem wa_yes {L:List Int} {S:Sp} (hS:okS S=true) (hp:S.p=(pgN L:Int)) (h:waB L S=true):waE L S=0∧waR L S=⟨S,-1,(wkD L S).1.pc,(wkD L S).1.tx,(wkC L S).2,rsg (wkD L S).1.kd (pgN L),S.h⟩:=by
 have e:waE L S=0:=by unfold waE;rw [if_pos hS,if_pos hp,h];rfl
 refine ⟨e,?_⟩;unfold waR;rw [if_pos e]
def StS (x y:Value):Sem Unit:=Instr.storeAt 28 x y
theorem StS_eq (x y:Value):Instr.storeAt 28 x y=StS x y:=rfl
def LdR (x:Value):Sem Value:=Instr.loadAt 41 x
theorem LdR_eq (x:Value):Instr.loadAt 41 x=LdR x:=rfl
def qS (S:Sp) (q:Nat→Value) (i:Nat):Value:=match i with
 |0=>.int .i64 S.g
 |1=>.int .i64 S.p
 |2=>.int .i64 S.r
 |3=>.int .i64 S.h
 |4=>.int .i64 S.b
 |5=>.int .i64 S.l
 |6=>.int .i64 S.s
 |7=>.int .i64 S.f
 |i=>q i
theorem setCells_ch (p:Nat):∀(vs:List Value) (o:Nat) (w:World),Ch w.heap.size (fun x=>x=p) w (w.setCells p o vs)
 |[],_,w=>Ch.refl _ _ w
 |v::r,o,w=>by
  rw [World.setCells];have h1:Ch w.heap.size (fun x=>x=p) w (w.setCell ⟨p,o,none⟩ v):=(Ch.refl _ (fun x=>x=p) w).setCell (p:=⟨p,o,none⟩) (.inr rfl) v;have h2:=setCells_ch p r (o+1) (w.setCell ⟨p,o,none⟩ v);rw [size_setCell] at h2;exact h1.trans h2
section
variable {w:World} {p ic gk kl ck il nP cP nT cT:Nat} {ia aP aT:Option Addr} {q:Nat→Value} {bad:Bool}
theorem wcs_set (j:Nat) (hj:j<8) (v:Value):(wcs ia il ic gk kl ck q aP nP cP aT nT cT bad).setIfInBounds (2+j) v=wcs ia il ic gk kl ck (fun i=>if i=j then v else q i) aP nP cP aT nT cT bad:=by
 rcases eight hj with rfl|rfl|rfl|rfl|rfl|rfl|rfl|rfl<;>rfl
theorem setS (S:Sp) (hc:w.heap[p]?=some (.cells (wcs ia il ic gk kl ck q aP nP cP aT nT cT bad) 96 (0,0))):
  ∃w9,(StS (.pointer (some ⟨p,2,none⟩)) (.agg (spC S))).run Tryz.prog w=.ok () w9∧w9.heap[p]?=some (.cells (wcs ia il ic gk kl ck (qS S q) aP nP cP aT nT cT bad) 96 (0,0))∧Ch w.heap.size (fun x=>x=p) w w9:=by
 refine ⟨w.setCells p 2 (spC S).toList,?_,?_,?_⟩
 ·unfold StS;refine run_storeAt_mid w p 2 28 (spC S) ?_ (by kernel_rfl) (by simp [spC,Value.oneCell']);intro j hj;have hj':j<8:=hj;refine ⟨?_,by unfold World.frozen?;rw [hc];simp⟩;rw [cell_of_row w p _ _ _ (0,0) hc];rcases eight hj' with rfl|rfl|rfl|rfl|rfl|rfl|rfl|rfl<;>rfl
 ·simp only [spC,World.setCells];rw [setCell_heap _ _ _ _ _ _ _ (setCell_heap _ _ _ _ _ _ _ (setCell_heap _ _ _ _ _ _ _ (setCell_heap _ _ _ _ _ _ _ (setCell_heap _ _ _ _ _ _ _ (setCell_heap _ _ _ _ _ _ _ (setCell_heap _ _ _ _ _ _ _ (setCell_heap _ _ _ _ _ _ _ hc)))))))];rw [wcs_set 0 (by omega),wcs_set 1 (by omega),wcs_set 2 (by omega),wcs_set 3 (by omega),wcs_set 4 (by omega),wcs_set 5 (by omega),wcs_set 6 (by omega),wcs_set 7 (by omega)];simp [wcs,qS]
 ·exact setCells_ch p (spC S).toList 2 w
theorem getR (hc:w.heap[p]?=some (.cells (wcs ia il ic gk kl ck q aP nP cP aT nT cT bad) 96 (0,0))):
  (LdR (.pointer (some ⟨p,2,none⟩))).run Tryz.prog w=.ok (.agg #[q 0,q 1,q 2,q 3,q 4,q 5,q 6,q 7,q 8,.slice aP nP cP,.slice aT nT cT,q 9,q 10,q 11]) w:=by
 unfold LdR;have:=run_loadVar_mid (P:=Tryz.prog) w p 2 41 [q 0,q 1,q 2,q 3,q 4,q 5,q 6,q 7,q 8,.slice aP nP cP,.slice aT nT cT,q 9,q 10,q 11] _ ?_ Tryz.underlying41 rfl (by kernel_rfl)
 ·simp only [Instr.loadAt,Instr.sureAddr,Sem.run_bind,Sem.run_pure,Result.andThen_ok,this]
 ·intro j v hj;rw [cell_of_row w p _ _ _ (0,0) hc];have hj':j<14:=(List.getElem?_eq_some_iff.1 hj).1;rw [←hj];rcases (by omega:j=0∨j=1∨j=2∨j=3∨j=4∨j=5∨j=6∨j=7∨j=8∨j=9∨j=10∨j=11∨j=12∨j=13) with rfl|rfl|rfl|rfl|rfl|rfl|rfl|rfl|rfl|rfl|rfl|rfl|rfl|rfl<;>rfl
end
def qk (gs:Option Addr) (sl cs:Nat) (v:Value) (i:Nat):Value:=if i=10 then v else if i=9 then .slice gs sl cs else q00 i
structure PgI (w w7 wr:World) (p N:Nat) (F:Nat→Prop) (a:Option Addr) (cap:Nat) (L:List Int) (gs:Option Addr) (sl cs:Nat) (DW:Wk) (S:Sp) (k:Nat) (v:Value):Prop where
 wk:WkS w wr p N F a cap L (qk gs sl cs v) DW S
 own:OwnI w7.heap.size wr v (rsg DW.kd k)
 ch:Ch w7.heap.size F w7 wr
theorem rsg_yes {kd:List Int} {k:Nat} (h:¬kd.getD k 0=0):rsg kd (k+1)=rsg kd k++[(k:Int)]:=by rw [rsg,if_neg h]
theorem rsg_no {kd:List Int} {k:Nat} (h:kd.getD k 0=0):rsg kd (k+1)=rsg kd k:=by rw [rsg,if_pos h]
theorem rsg_len (kd:List Int):∀k,(rsg kd k).length≤k:=by
 intro k
 induction k with
 |zero=>simp [rsg]
 |succ k ih=>
  by_cases h:kd.getD k 0=0
  ·rw [rsg_no h];omega
  ·rw [rsg_yes h,List.length_append];simp;omega
theorem qk_set (gs:Option Addr) (sl cs:Nat) (v v':Value):(fun k=>if k=10 then v' else qk gs sl cs v k)=qk gs sl cs v':=by
 funext k
 unfold qk;by_cases h:k=10
 ·simp [h]
 ·simp [h]
theorem PgI.next {w w7 wr w4:World} {p N:Nat} {F:Nat→Prop} {a:Option Addr} {cap:Nat} {L:List Int} {gs:Option Addr} {sl cs:Nat} {DW:Wk} {S:Sp} {k:Nat} {v v4:Value} (h:PgI w w7 wr p N F a cap L gs sl cs DW S k v) (hF:∀k,F k→k<w7.heap.size) (h7:w.heap.size+2≤w7.heap.size) (hi:∀k,obl a k→k<w7.heap.size) (hk:¬DW.kd.getD k 0=0) (ho:OwnI w7.heap.size w4 v4 (rsg DW.kd k++[(k:Int)])) (hb:Below w7.heap.size wr w4):
  PgI w w7 (w4.setCell ⟨p,14,none⟩ v4) p N F a cap L gs sl cs DW S (k+1) v4:=by
 have hr4:RWA w4 p F a cap L (qk gs sl cs v) DW:=h.wk.rw.low hF hi hb
 have hW4:WkS w w4 p N F a cap L (qk gs sl cs v) DW S:=
  {rw:=hr4,bel:=h.wk.bel.trans (hb.mono (by omega)),s:=(hb.block _ (by omega)).trans h.wk.s,r:=(hb.block _ (by omega)).trans h.wk.r,lo:=h.wk.lo,kl:=h.wk.kl,n0:=h.wk.n0,ilo:=h.wk.ilo}
 have hc:Ch w4.heap.size F w4 (w4.setCell ⟨p,14,none⟩ v4):=Ch.set hr4.fp _ _;have hq:=hr4.setQ 14 10 (.inr (.inl ⟨rfl,rfl⟩)) v4;rw [qk_set] at hq;refine ⟨hW4.step hq (Step.of hc) h.wk.kl,?_,(h.ch.trans (Ch.of F hb)).trans (hc.mono (Nat.le_trans h.ch.size hb.size) (fun _ _ e=>e))⟩;rw [rsg_yes hk];refine owns_keep ho (fun g hg=>Below.heap_setCell w4 ⟨p,14,none⟩ _ g (fun e=>?_));have:=(World.ownsRow.lt ho g hg).1;have h2:=hF p hr4.fp;have e':g=p:=e;omega
theorem qk0 (gs:Option Addr) (sl cs:Nat):(fun k=>if k=9 then (.slice gs sl cs:Value) else q00 k)=qk gs sl cs (.slice none 0 0):=by
 funext k
 unfold qk;by_cases h:k=10
 ·subst h;rfl
 ·simp [h]
theorem waB_is {L:List Int} {S:Sp} {DW:Wk} {fr:List Int} {N:Nat} (hD:wkD L S=(DW,fr)) (hN:pgN L=N):waB L S=(!DW.bad&&(decide (fr.length=(N+7)/8)&&(List.range (fr.length*8)).all (frB fr DW.kd N))):=by
 unfold waB;rw [hD,hN]
theorem all_no {f:Nat→Bool} {n k:Nat} (hk:k<n) (h:f k=false):(List.range n).all f=false:=by
 cases e:(List.range n).all f with
 |false=>rfl
 |true=>
  have:=List.all_eq_true.1 e k (List.mem_range.2 hk);rw [h] at this;cases this
theorem all_yes {f:Nat→Bool} {n:Nat} (h:∀k,k<n→f k=true):(List.range n).all f=true:=List.all_eq_true.2 fun k hk=>h k (List.mem_range.1 hk)
theorem walk_end {w w7 wr:World} {p N:Nat} {F:Nat→Prop} {a:Option Addr} {cap:Nat} {L:List Int} {gs:Option Addr} {sl cs:Nat} {DW:Wk} {S:Sp} {ag:Option Addr} {ng cg:Nat} {st:List Int}
  (h:PgI w w7 wr p N F a cap L gs sl cs DW S N (.slice ag ng cg)) (hgs:Row w7 gs cs st) (hgk:∀k,obl gs k→¬F k∧k<w7.heap.size∧w.heap.size+2≤k) (hsl:st.length=sl) (hpc:∀x∈DW.pc,wfC x) (h7:w.heap.size+2≤w7.heap.size) (hng:(rsg DW.kd N).length=ng) (hF:∀k,F k→k<w7.heap.size):
  ∃w9 aP cP aT cT,(StS (.pointer (some ⟨p,2,none⟩)) (.agg (spC S))).run Tryz.prog wr=.ok () w9∧(w9.cell? ⟨p,10,none⟩=some (.int .i64 0)∧w9.cell? ⟨p,15,none⟩=some (.int .i64 0))∧(∀i,w9.frozen? ⟨p,i,none⟩=false)∧w9.cell? ⟨w.heap.size,3,none⟩=some (.int .i64 S.h)∧¬w.heap.size=p∧
   ∀w11,w11=(w9.setCell ⟨p,10,none⟩ (.int .i64 (-1))).setCell ⟨p,15,none⟩ (.int .i64 S.h)→
    (LdR (.pointer (some ⟨p,2,none⟩))).run Tryz.prog w11=.ok (.agg (rpC S (-1) (.slice aP DW.pc.length cP) (.slice aT DW.tx.length cT) (.slice gs sl cs) (.slice ag ng cg) S.h)) w11∧
    (StR (.pointer (some ⟨w.heap.size+1,0,none⟩)) (.agg (rpC S (-1) (.slice aP DW.pc.length cP) (.slice aT DW.tx.length cT) (.slice gs sl cs) (.slice ag ng cg) S.h))).run Tryz.prog w11=.ok () (w11.setRow (w.heap.size+1) (rpC S (-1) (.slice aP DW.pc.length cP) (.slice aT DW.tx.length cT) (.slice gs sl cs) (.slice ag ng cg) S.h))∧
    (w11.setRow (w.heap.size+1) (rpC S (-1) (.slice aP DW.pc.length cP) (.slice aT DW.tx.length cT) (.slice gs sl cs) (.slice ag ng cg) S.h)).heap[w.heap.size+1]?=some (.cells (rpC S (-1) (.slice aP DW.pc.length cP) (.slice aT DW.tx.length cT) (.slice gs sl cs) (.slice ag ng cg) S.h) 41 (0,0))∧
    Below w.heap.size w (w11.setRow (w.heap.size+1) (rpC S (-1) (.slice aP DW.pc.length cP) (.slice aT DW.tx.length cT) (.slice gs sl cs) (.slice ag ng cg) S.h))∧
    RepIs w.heap.size (w11.setRow (w.heap.size+1) (rpC S (-1) (.slice aP DW.pc.length cP) (.slice aT DW.tx.length cT) (.slice gs sl cs) (.slice ag ng cg) S.h)) (.agg (rpC S (-1) (.slice aP DW.pc.length cP) (.slice aT DW.tx.length cT) (.slice gs sl cs) (.slice ag ng cg) S.h)) ⟨S,-1,DW.pc,DW.tx,st,rsg DW.kd N,S.h⟩:=by
 obtain ⟨gk,ck,aP,aT,cP,cT,hR⟩:=h.wk.rw;obtain ⟨w9,hst,hc9,hch9⟩:=setS S hR.cells;have hlo:=h.wk.lo p hR.fp;have hlt:=h.wk.lt;have hws:¬w.heap.size=p:=by omega
 have hcell:∀i,w9.cell? ⟨p,i,none⟩=(wcs a L.length cap gk DW.kd.length ck (qS S (qk gs sl cs (.slice ag ng cg))) aP DW.pc.length cP aT DW.tx.length cT DW.bad)[i]?:=fun i=>cell_of_row w9 p _ _ _ (0,0) hc9
 refine ⟨w9,aP,cP,aT,cT,hst,⟨by rw [hcell];rfl,by rw [hcell];rfl⟩,fun i=>by unfold World.frozen?;rw [hc9];simp,?_,hws,?_⟩
 ·exact (World.cell?_of_block (w:=wr) (a:=⟨w.heap.size,3,none⟩) (hch9.block w.heap.size (by omega) hws)).trans h.wk.at.2.2.1
 ·rintro w11 rfl;obtain ⟨cx,hcx⟩:∃cx,(rpC S (-1) (.slice aP DW.pc.length cP) (.slice aT DW.tx.length cT) (.slice gs sl cs) (.slice ag ng cg) S.h)=cx:=⟨_,rfl⟩;have hcs:cx.size=14:=by rw [←hcx];rfl
  have hco:cx.all (·.oneCell')=true:=by rw [←hcx];exact rp_one ..
  have h10:=setCell_heap w9 p 10 (.int .i64 (-1)) _ _ _ hc9;have h15:=setCell_heap _ p 15 (.int .i64 S.h) _ _ _ h10;have hgr:=getR (w:=(w9.setCell ⟨p,10,none⟩ (.int .i64 (-1))).setCell ⟨p,15,none⟩ (.int .i64 S.h)) (p:=p) (ia:=a) (il:=L.length) (ic:=cap) (gk:=gk) (kl:=DW.kd.length) (ck:=ck) (aP:=aP) (nP:=DW.pc.length) (cP:=cP) (aT:=aT) (nT:=DW.tx.length) (cT:=cT) (bad:=DW.bad) (q:=fun i=>if i=11 then .int .i64 S.h else if i=8 then .int .i64 (-1) else qS S (qk gs sl cs (.slice ag ng cg)) i) (by rw [h15];rfl);have hc11:Ch wr.heap.size (fun x=>x=p) wr ((w9.setCell ⟨p,10,none⟩ (.int .i64 (-1))).setCell ⟨p,15,none⟩ (.int .i64 S.h)):=(hch9.setCell (p:=⟨p,10,none⟩) (.inr rfl) _).setCell (p:=⟨p,15,none⟩) (.inr rfl) _;obtain ⟨w11,hw11⟩:∃w11,(w9.setCell ⟨p,10,none⟩ (.int .i64 (-1))).setCell ⟨p,15,none⟩ (.int .i64 S.h)=w11:=⟨_,rfl⟩;rw [hw11] at hgr hc11 ⊢;have hrB:w11.heap[w.heap.size+1]?=some (.cells rp0C 41 (0,0)):=(hc11.block _ hlt (by omega)).trans h.wk.r;rw [hcx];have hk12:∀g,g≠p→g≠w.heap.size+1→g<wr.heap.size→(w11.setRow (w.heap.size+1) cx).heap[g]?=wr.heap[g]?:=fun g h1 h2 h3=>(setRow_other w11 _ g cx h2).trans (hc11.block g h3 h1)
  refine ⟨?_,StR_run hrB rfl hcs hco,setRow_heap w11 _ _ _ _ _ hrB,?_,?_⟩
  ·rw [hgr,←hcx];rfl
  ·have hb:Below w.heap.size w w11:=h.wk.bel.trans ((hc11.mono h.wk.bel.size (fun _ _ e=>e)).below (fun k hk=>by subst hk;omega));exact ((Ch.of (fun _=>False) hb).setRow (.inl (by omega)) _).below (fun k e=>by cases e)
  ·have hlF:∀k,F k→k<wr.heap.size:=h.wk.rw.lt;refine ⟨aP,cP,aT,cT,gs,cs,ag,cg,by rw [←hcx];simp only [hsl,hng],?_,?_,?_,?_,fun k hk=>?_⟩
   ·have:=(OwnC.row' hR.pc hpc).2.1;exact this.keepO (fun g hg=>hk12 g (fun e=>hR.pP (e▸hg)) (fun e=>by have:=h.wk.lo g (hR.fP g hg);omega) (hlF g (hR.fP g hg)))
   ·exact (hR.tx.row' hR.tb).2.keepO (fun g hg=>hk12 g (fun e=>hR.pT (e▸hg)) (fun e=>by have:=h.wk.lo g (hR.fT g hg);omega) (hlF g (hR.fT g hg)))
   ·have h1:Row wr gs cs st:=hgs.keepO (fun g hg=>h.ch.block g (hgk g hg).2.1 (hgk g hg).1);exact h1.keepO (fun g hg=>hk12 g (fun e=>(hgk g hg).1 (e▸hR.fp)) (fun e=>by have:=(hgk g hg).2.2;omega) (by have:=(hgk g hg).2.1;have:=h.ch.size;omega))
   ·obtain ⟨a',c',e,hr⟩:=OwnI.row h.own;simp only [Value.slice.injEq] at e;obtain ⟨rfl,-,rfl⟩:=e;obtain ⟨r1,r2,r3⟩:=hr;refine ⟨r1,r2,?_⟩;rcases r3 with r3|⟨b,off,e,hc⟩
    ·exact .inl r3
    ·have hlo2:w7.heap.size≤b∧b<wr.heap.size:=World.ownsRow.lt h.own b (by rw [e];rfl);refine .inr ⟨b,off,e,fun i hi=>(World.cell?_of_block (w:=wr) (a:=⟨b,off+i,none⟩) (hk12 b (fun e=>by have:=hF p hR.fp;omega) (by omega) hlo2.2)).trans (hc i hi)⟩
   ·rcases hk with hk|hk|hk|hk
    ·have:=h.wk.lo k (hR.fP k hk);omega
    ·have:=h.wk.lo k (hR.fT k hk);omega
    ·have:=(hgk k hk).2.2;omega
    ·have:=(World.ownsRow.lt h.own k (own_obl hk)).1;omega
theorem wk_pcs {L:List Int} (hL:Bys L) (h4:pgN L≤4096) {S:Sp} (hS:okS S=true) (h:waE L S=0):∀x∈(waR L S).pc,wfC x:=by
 rcases su_wa hL h4 hS with ⟨-,h2⟩|⟨h1,-⟩
 ·obtain ⟨-,T,R2,st,R3,fr,k1,-,-,-,e⟩:=h2;rw [e];exact fun x hx=>wfC_ok ((suT_in hL k1.t).2 x hx)
 ·rw [h] at h1;cases h1
end Go.Proofs.YtjllhcifmfhkmaaGreat.Oct
