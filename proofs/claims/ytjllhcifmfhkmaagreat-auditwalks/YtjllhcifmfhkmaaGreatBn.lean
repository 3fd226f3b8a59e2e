/- Part of a proof. -/
import Derived.Test.YtjllhcifmfhkmaaGreatBm
import Derived.BigRegion
set_option maxHeartbeats 4000000
namespace Go.Proofs.YtjllhcifmfhkmaaGreat.Oct
open Go.RowKit
theorem sums_new (w:World) (s:S3) (n:Nat) (w6:World) (h:((w.alloc (Obj.cells #[Value.int IntKind.i64 s.p,Value.int IntKind.i64 s.b,Value.int IntKind.i64 s.l] 98)).drewN n)=w6):Below w.heap.size w w6∧At3 w6 w.heap.size s:=by
 subst h;exact ⟨Below.drewN ((Below.refl _ w).alloc (Nat.le_refl _) _) n,heap_alloc_new w _⟩
theorem kdW_no {X:Wk} {x:S3} {y:C4} (h:kdQ x y=false):kdW (X,x) y={X with bad:=true}:=by unfold kdW;simp [h]
theorem kdW_yes {X:Wk} {x:S3} {y:C4} (h:kdQ x y=true):kdW (X,x) y=X:=by unfold kdW;simp [h]
def put3a (w:World) (b:Nat) (s x:S3):World:=((w.setCell ⟨b,0,none⟩ (.int .i64 (s.p+x.p))).setCell ⟨b,1,none⟩ (.int .i64 (s.b+x.b))).setCell ⟨b,2,none⟩ (.int .i64 (s.l+x.l))
theorem At3.put3a {w:World} {b:Nat} {s:S3} (h:At3 w b s) (x:S3):At3 (put3a w b s x) b (addS s x):=((h.set0 _).set1 _).set2 _
theorem put3a_ch (w:World) (b:Nat) (s x:S3):Ch w.heap.size (fun y=>y=b) w (put3a w b s x):=
 (((Ch.refl _ (fun y=>y=b) w).setCell (p:=⟨b,0,none⟩) (.inr rfl) _).setCell (p:=⟨b,1,none⟩) (.inr rfl) _).setCell (p:=⟨b,2,none⟩) (.inr rfl) _
theorem s30_b':S3b s30 (1048576*((0:Nat):Int)):=by
 refine ⟨?_,?_,?_⟩<;>simp [s30]
theorem wpk_ok {W:Wk} (h:WkOk W) (n:Nat) (kd:Int):WkOk {W with kd:=W.kd.set n kd}:=h
theorem wpk_bd {W:Wk} (h:WkOk W) (n:Nat) (kd:Int):WkOk {W with kd:=W.kd.set n kd,bad:=true}:=⟨h.1,fun e=>by cases e⟩
theorem RWA.setBad {w:World} {p ic:Nat} {F:Nat→Prop} {ia:Option Addr} {L:List Int} {q:Nat→Value} {W:Wk} (h:RWA w p F ia ic L q W) (x:Bool):RWA (w.setCell ⟨p,16,none⟩ (.bool x)) p F ia ic L q {W with bad:=x}:=by
 obtain ⟨_,_,_,_,_,_,h⟩:=h;exact ⟨_,_,_,_,_,_,h.setBad x⟩
theorem RowC.keepO {w w':World} {a:Option Addr} {c:Nat} {l:List C4} (h:RowC w a c l) (k:∀g,obl a g→w'.heap[g]?=w.heap[g]?):RowC w' a c l:=by
 obtain ⟨h1,h2,h3,h4⟩:=h;refine ⟨h1,h2,h3,?_⟩;rcases h4 with h4|⟨b,off,ha,hc⟩
 ·exact .inl h4
 ·exact .inr ⟨b,off,ha,fun i hi=>(hc i hi).same (k b ⟨_,ha,rfl⟩)⟩
def TreeC (p:Nat) (ia:Option Addr) (ic:Nat) (L:List Int) (q:Nat→Value) (lv:Nat):Prop:=∀(w:World) (F:Nat→Prop) (W:Wk) (n:Int) (root:Bool),RWA w p F ia ic L q W→W.bad=false→WkOk W→0<W.kd.length→(-9223372036854775808≤n∧n≤9223372036854775807)→
 Calls Tryz.prog 45 #[.pointer (some ⟨p,0,none⟩),.int .i64 n,.int .i64 (lv:Int),.bool root] w fun e w'=>e=.returned (s3V (wtr L lv root n W).2)∧∃F',RWA w' p F' ia ic L q (wtr L lv root n W).1∧Step F F' w w'
structure TrI (w wr:World) (p:Nat) (F F':Nat→Prop) (ia:Option Addr) (ic:Nat) (L:List Int) (q:Nat→Value) (N lv:Nat) (l:List C4) (g:Option Addr) (rb sb k:Nat) (W':Wk) (s':S3) (fin:Wk × S3):Prop where
 rw:RWA wr p F' ia ic L q W'
 ok:WkOk W'
 kl:W'.kd.length=N
 fin:kdGo (wtr L lv false) (l.drop k) (W',s')=fin
 s:At3 wr sb s'
 r:At3 wr rb s30
 row:∀j,j<l.length→∃b off,g=some ⟨b,off,none⟩∧¬F' b∧¬b=sb∧At4 wr b (off+j*4) (l.getD j c40)
 ns:¬F' sb∧¬obl ia sb∧w.heap.size≤sb
 nr:¬F' rb∧¬obl ia rb
 st:Step F F' w wr
 bd:W'.bad=false→S3b s' (1048576*k)
section
variable {w wr w2 w5:World} {p ic rb sb k N lv c:Nat} {F F' F2:Nat→Prop} {ia g:Option Addr} {L:List Int} {q:Nat→Value} {W':Wk} {l:List C4} {s':S3} {fin:Wk × S3}
theorem kdQ_add {s x:S3} {y:C4} (hy:okC true y=true) (h:kdQ x y=true) {k:Nat} (hs:S3b s (1048576*k)):S3b (addS s x) (1048576*((k+1:Nat):Int)):=by
 obtain ⟨b1,b2,b3⟩:=kdQ_bd hy h;obtain ⟨h1,h2,h3⟩:=hs;unfold addS;refine ⟨?_,?_,?_⟩<;>(simp only;omega)
theorem TrI.next (h:TrI w wr p F F' ia ic L q N lv l g rb sb k W' s' fin) (hk:k<l.length) (hb:W'.bad=false) (hx:okC true (l.getD k c40)=true) {w1:World} (hb1:Below wr.heap.size wr w1) (hok2:WkOk (wtr L lv false (l.getD k c40).a W').1) (st:Step F' F2 w1 w2) (hrs:¬rb=sb):
  (At3 w2 sb s'∧∀b off,g=some ⟨b,off,none⟩→At4 w2 b (off+k*4) (l.getD k c40))∧∀w5,RWA w5 p F2 ia ic L q (kdW (wtr L lv false (l.getD k c40).a W') (l.getD k c40))→Ch w2.heap.size (fun x=>x=sb∨x=p∨wr.heap.size≤x) w2 w5→At3 w5 sb (addS s' (wtr L lv false (l.getD k c40).a W').2)→TrI w w5 p F F2 ia ic L q N lv l g rb sb (k+1) (kdW (wtr L lv false (l.getD k c40).a W') (l.getD k c40)) (addS s' (wtr L lv false (l.getD k c40).a W').2) fin:=by
 have hsb:sb<wr.heap.size:=h.s.lt;have hrb:rb<wr.heap.size:=h.r.lt;have hfp:p<wr.heap.size:=h.rw.lt p h.rw.fp;have st':Step F' F2 wr w2:=(Step.ofB (F:=F') hb1).trans st;refine ⟨⟨h.s.keep (st'.1.block sb hsb h.ns.1),fun b off hg=>?_⟩,fun w5 h5 hc h35=>?_⟩
 ·obtain ⟨b',off',hg',hnb,-,a4⟩:=h.row k hk;rw [hg] at hg';cases hg';exact a4.same (st'.1.block b a4.lt hnb)
 ·have hsz:=st'.1.size;have npr:¬rb=p:=fun e=>h.nr.1 (e▸h.rw.fp)
  refine {rw:=h5,ok:=wk_bad hok2 _,kl:=?_,fin:=(kdGo_step hk hb).symm.trans h.fin,s:=h35,r:=?_,row:=fun j hj=>?_,ns:=⟨st'.notin hsb h.ns.1,h.ns.2⟩,nr:=⟨st'.notin hrb h.nr.1,h.nr.2⟩,st:=?_,bd:=fun e=>?_}
  ·show (kdW _ _).kd.length=N;unfold kdW;simp only;rw [wtr_len];exact h.kl
  ·exact (h.r.keep (st'.1.block rb hrb h.nr.1)).keep (hc.block rb (Nat.lt_of_lt_of_le hrb hsz) (fun e=>by rcases e with e|e|e;exact hrs e;exact npr e;omega))
  ·obtain ⟨b,off,hg,hnb,hbs,a4⟩:=h.row j hj;exact ⟨b,off,hg,st'.notin a4.lt hnb,hbs,(a4.same (st'.1.block b a4.lt hnb)).same (hc.block b (Nat.lt_of_lt_of_le a4.lt hsz) (fun e=>by rcases e with e|e|e;exact hbs e;exact hnb (e▸h.rw.fp);have:=a4.lt;omega))⟩
  ·have h1:Step F F2 w w2:=h.st.trans st';have hws:=h.st.1.size;refine ⟨h1.1.trans (hc.mono h1.1.size (fun k hk e=>?_)),h1.2⟩;rcases e with e|e|e
   ·have:=h.ns.2.2;omega
   ·have hpF:F' p:=h.rw.fp;rcases h.st.2 p hpF with h3|h3
    ·exact e▸h3
    ·omega
   ·omega
  ·unfold kdW at e;simp only [Bool.or_eq_false_iff,Bool.not_eq_false'] at e;exact kdQ_add hx e.2 (h.bd hb)
theorem TrI.start {w1:World} {W0:Wk} (hR:RWA w1 p F ia ic L q W0) (hok:WkOk W0) (hN:0<W0.kd.length) (hc:Ch w.heap.size F w w1) (h3:At3 w1 rb s30) (hg:∀k,obl g k→¬F k∧k<w1.heap.size) (hrow:RowC w1 g c l) (hnr:¬F rb∧¬obl ia rb) (hfin:kdGo (wtr L lv false) l (W0,s30)=fin):
  TrI w (w1.alloc (.cells #[.int .i64 0,.int .i64 0,.int .i64 0] 98)) p F F ia ic L q W0.kd.length lv l g rb w1.heap.size 0 W0 s30 fin:=by
 have hbl:=(Below.refl w1.heap.size w1).alloc (Nat.le_refl _) (.cells #[.int .i64 0,.int .i64 0,.int .i64 0] 98);refine {rw:=hR.below hN hbl,ok:=hok,kl:=rfl,fin:=by rw [List.drop_zero];exact hfin,s:=heap_alloc_new w1 _,r:=h3.keep (hbl.block rb h3.lt),row:=fun j hj=>?_,ns:=⟨fun e=>?_,fun e=>?_,hc.size⟩,nr:=hnr,st:=⟨hc.trans (Ch.of F (hbl.mono hc.size)),fun k hk=>.inl hk⟩,bd:=fun _=>s30_b'}
 ·obtain ⟨b,off,e⟩:=hrow.some' (by omega);obtain ⟨k1,k2⟩:=hg b ⟨_,e,rfl⟩;refine ⟨b,off,e,k1,by omega,?_⟩;subst e;exact (hrow.cells j hj).below hbl
 ·have:=hR.lt _ e;omega
 ·have:=hR.ilt hN _ e;omega
theorem kid_bad {w6:World} {F2:Nat→Prop} {XW:Wk} {s x:S3} {y:C4} {B:Nat} (h:RWA w6 p F2 ia ic L q XW) (h3:At3 w6 sb s) (hk:0<XW.kd.length) (hn:¬F2 sb) (hi:¬obl ia sb) (np:¬sb=p) (hq:kdQ x y=false) (hc:Ch w2.heap.size (fun x=>x=sb∨x=p∨B≤x) w2 w6):
  RWA (put3a (w6.setCell ⟨p,16,none⟩ (.bool true)) sb s x) p F2 ia ic L q (kdW (XW,x) y)∧Ch w2.heap.size (fun x=>x=sb∨x=p∨B≤x) w2 (put3a (w6.setCell ⟨p,16,none⟩ (.bool true)) sb s x)∧At3 (put3a (w6.setCell ⟨p,16,none⟩ (.bool true)) sb s x) sb (addS s x):=by
 rw [kdW_no hq];have c1:Ch w6.heap.size (fun x=>x=p) w6 (w6.setCell ⟨p,16,none⟩ (.bool true)):=(Ch.refl _ (fun x=>x=p) w6).setCell (p:=⟨p,16,none⟩) (.inr rfl) _;have c2:=put3a_ch (w6.setCell ⟨p,16,none⟩ (.bool true)) sb s x;have hsz:=hc.size;refine ⟨(h.setBad true).other c2 hn hi hk,(hc.trans (c1.mono hsz (fun k _ e=>.inr (.inl e)))).trans (c2.mono (by rw [size_setCell];exact hsz) (fun k _ e=>.inl e)),(h3.keep (c1.block sb h3.lt np)).put3a x⟩
theorem kid_good {w6:World} {F2:Nat→Prop} {XW:Wk} {s x:S3} {y:C4} {B:Nat} (h:RWA w6 p F2 ia ic L q XW) (h3:At3 w6 sb s) (hk:0<XW.kd.length) (hn:¬F2 sb) (hi:¬obl ia sb) (hq:kdQ x y=true) (hc:Ch w2.heap.size (fun x=>x=sb∨x=p∨B≤x) w2 w6):
  RWA (put3a w6 sb s x) p F2 ia ic L q (kdW (XW,x) y)∧Ch w2.heap.size (fun x=>x=sb∨x=p∨B≤x) w2 (put3a w6 sb s x)∧At3 (put3a w6 sb s x) sb (addS s x):=by
 rw [kdW_yes hq];have c2:=put3a_ch w6 sb s x;exact ⟨h.other c2 hn hi hk,hc.trans (c2.mono hc.size (fun k _ e=>.inl e)),h3.put3a x⟩
theorem TrI.done (h:TrI w wr p F F' ia ic L q N lv l g rb sb k W' s' fin) (hN:0<N) (hw:w.heap.size≤rb) (he:W'.bad=true∨k=l.length):At3 (put3 wr rb s') rb s'∧fin=(W',s')∧RWA (put3 wr rb s') p F' ia ic L q W'∧Step F F' w (put3 wr rb s'):=by
 have hf:fin=(W',s'):=by
  rcases he with he|he
  ·exact h.fin.symm.trans (kdGo_bad he)
  ·have:=h.fin.symm;rw [he,List.drop_length] at this;exact this
 obtain ⟨h1,h2⟩:=RWA.fin h.rw (by rw [h.kl];exact hN) h.st hw h.nr.1 h.nr.2 s';exact ⟨((h.r.set0 _).set1 _).set2 _,hf,h1,h2⟩
end
section
variable {w w':World} {p ic:Nat} {F:Nat→Prop} {ia:Option Addr} {L:List Int} {q:Nat→Value} {W:Wk}
set_option maxRecDepth 20000 in
theorem tree_r (hLB:Bys L) (lv:Nat) (hlv:lv≤40) (IH:TreeC p ia ic L q lv) (h:RWA w p F ia ic L q W) (hbad:W.bad=false) (hok:WkOk W) (hk0:0<W.kd.length) (n:Int) (hk:kdB W n 116=true) (z:List Int) (hz:pageOf L n.toNat=z) (l:List C4) (hL:reL true z=l) (m:Nat) (hm:l.length=m) (lv1:Nat) (hlv1:lv+1=lv1) (hE:reE true z=0) (hV:reV true z=(lv1:Int)) (hmm:2≤m):
  Calls Tryz.prog 45 #[.pointer (some ⟨p,0,none⟩),.int .i64 n,.int .i64 (lv1:Int),.bool true] w fun e w'=>e=.returned (s3V (kdGo (wtr L lv false) l ({W with kd:=W.kd.set n.toNat 116},s30)).2)∧∃F',RWA w' p F' ia ic L q (kdGo (wtr L lv false) l ({W with kd:=W.kd.set n.toNat 116},s30)).1∧Step F F' w w':=by
 obtain ⟨gk,ck,aP,aT,cP,cT,h⟩:=h;have hp:=page_yes (h.below hk0 (w':=w.alloc (.cells #[.int .i64 0,.int .i64 0,.int .i64 0] 98)) ((Below.refl _ w).alloc (Nat.le_refl _) _)) n 116 (by omega) hk;rw [hz] at hp
 have HA:Hid (∀w1,Ch (w.alloc (.cells #[.int .i64 0,.int .i64 0,.int .i64 0] 98)).heap.size F (w.alloc (.cells #[.int .i64 0,.int .i64 0,.int .i64 0] 98)) w1→At3 w1 w.heap.size s30∧Step F F w w1):=fun w1 hc=>by
  refine ⟨?_,Step.of ((Ch.of F ((Below.refl _ w).alloc (Nat.le_refl _) _)).trans (hc.mono (by simp) (fun _ _ e=>e)))⟩;show w1.heap[w.heap.size]?=_;rw [hc.block w.heap.size (by simp) (fun e=>by have:=h.lt _ e;omega)];exact heap_alloc_new w _
 have hlb:=reL_bd (t:=true) (page_bys hLB n.toNat);rw [hz,hL] at hlb;have HOK:Hid ((WkOk W∧W.bad=false∧0<W.kd.length)∧(¬F w.heap.size∧¬obl ia w.heap.size)∧Bys L∧(∀x∈l,okC true x=true)∧l.length=m∧lv+1=lv1):=⟨⟨hok,hbad,hk0⟩,⟨fun e=>by have:=h.lt _ e;omega,fun e=>by have:=h.ilt hk0 _ e;omega⟩,hLB,hlb.2,hm,hlv1⟩;have HFL:Hid (∀k,F k→k<w.heap.size):=h.lt;have HIH:Hid (TreeC p ia ic L q lv):=IH;obtain ⟨fin,hfin⟩:∃fin,kdGo (wtr L lv false) l ({W with kd:=W.kd.set n.toNat 116},s30)=fin:=⟨_,rfl⟩;have HFIN:Hid (kdGo (wtr L lv false) l ({W with kd:=W.kd.set n.toNat 116},s30)=fin):=hfin;rw [hfin];have hm20:m≤20:=by omega
 have HEV:Hid (reE true z=0∧reV true z=(lv1:Int)∧reL true z=l):=⟨hE,hV,hL⟩;have hlvi:((lv1:Int)-1)=(lv:Int):=by omega
 have hlv0:0<lv1:=by omega
 have hlv2:lv1≤50:=by omega
 obtain ⟨rb,hrb⟩:∃rb,w.heap.size=rb:=⟨_,rfl⟩;have HRB:Hid (w.heap.size=rb):=hrb;clear h hk hok hbad hk0 hLB hlb hz hL hfin hm IH hlv1 hrb hE hV hlv;go_enter Tryz.func45,Tryz.ntmps45
 go_wp2_with fail
 refine hp.mono ?_;clear hp;rintro e w1 ⟨⟨a',c',rfl,hr1,hl1,-⟩,h1,hc1⟩;obtain ⟨h3,st⟩:=HA.out w1 hc1;obtain ⟨-,-,-,-,c16⟩:=h1.at;have z16:=h1.frz 16;simp only [HOK.out.1.2.1] at c16;rw [HRB.out] at h3 ⊢;have hkd:=rkids_v (some a') c' 256 z w1 hr1 hl1 _ HEV.out.1 l HEV.out.2.2 m HOK.out.2.2.2.2.1 _ HEV.out.2.1;have H1:Hid (RWA w1 p F ia ic L q {W with kd:=W.kd.set n.toNat 116}∧Step F F w w1∧At3 w1 rb s30):=⟨⟨_,_,_,_,_,_,h1⟩,st,h3⟩;have hlp:p<w1.heap.size:=h1.lt p h1.fp;clear h1 hc1 h3 st hr1 hl1 HA;go_wp2_with fail
 refine hkd.mono ?_;clear hkd;rintro e w2 ⟨g,c,rfl,hown,hb2⟩;have d16:=(hb2.cell (p:=⟨p,16,none⟩) hlp).trans c16;have y16:=(hb2.frozen (p:=⟨p,16,none⟩) hlp).trans z16;have HNK:Hid (0<(W.kd.set n.toNat 116).length):=by show 0<_;rw [List.length_set];exact HOK.out.1.2.2
 have H2:Hid (RWA w2 p F ia ic L q {W with kd:=W.kd.set n.toNat 116}∧Ch w.heap.size F w w2∧At3 w2 rb s30∧RowC w2 g c l∧(∀k,obl g k→¬F k∧k<w2.heap.size)):=by
  refine ⟨H1.out.1.below HNK.out hb2,H1.out.2.1.1.trans (Ch.of F (hb2.mono H1.out.2.1.1.size)),H1.out.2.2.keep (hb2.block rb H1.out.2.2.lt),(OwnC.row' hown (fun x hx=>wfC_ok (HOK.out.2.2.2.1 x hx))).2.1,fun k hk=>?_⟩;have:=World.ownsRow.lt hown k (own_obl hk);exact ⟨fun e=>by have:=H1.out.1.lt k e;omega,this.2⟩
 clear hown hb2 c16 z16 H1 hlp;go_wp2
 have HI0:Hid (TrI w (w2.alloc (.cells #[.int .i64 0,.int .i64 0,.int .i64 0] 98)) p F F ia ic L q (W.kd.set n.toNat 116).length lv l g rb w2.heap.size 0 {W with kd:=W.kd.set n.toNat 116} s30 fin):=by
  have:=TrI.start (lv:=lv) (fin:=fin) H2.out.1 (wpk_ok HOK.out.1.1 n.toNat 116) HNK.out H2.out.2.1 H2.out.2.2.1 H2.out.2.2.2.2 H2.out.2.2.2.1 (by rw [←HRB.out];exact HOK.out.2.1) HFIN.out;exact this
 obtain ⟨sb,hsb⟩:∃sb,w2.heap.size=sb:=⟨_,rfl⟩;have HRS:Hid (rb<sb):=by show _<_;rw [←hsb];exact H2.out.2.2.1.lt
 rw [hsb] at HI0 ⊢;obtain ⟨wq,hwq⟩:∃wq,w2=wq:=⟨_,rfl⟩;rw [hwq] at HI0 ⊢;clear hwq;obtain ⟨w3,hw3⟩:∃w3,wq.alloc (.cells #[.int .i64 0,.int .i64 0,.int .i64 0] 98)=w3:=⟨_,rfl⟩;rw [hw3] at HI0 ⊢;clear hw3 hsb H2 d16 y16 HFIN HEV hmm;go_loopw [14] (fun i wr=>∃(k:Nat) (W':Wk) (s':S3) (F':Nat→Prop),k≤m∧i=.int .i64 k∧Hid (TrI w wr p F F' ia ic L q (W.kd.set n.toNat 116).length lv l g rb sb k W' s' fin)) (fun i _=>m-(intOf i).toNat)
 case atStart=>exact ⟨0,_,_,_,Nat.zero_le _,rfl,HI0.out⟩
 case round=>
  clear HI0;obtain ⟨k,W',s',F',hk,rfl,HI⟩:=hrel;have c16:=HI.out.rw.c16.1;by_cases hend:W'.bad=true∨k=m
  ·obtain ⟨x3,hfn,x1,x2⟩:=HI.out.done HNK.out (by have:=HRB.out;omega) (by rcases hend with e|e;exact .inl e;exact .inr (e.trans HOK.out.2.2.2.2.1.symm));obtain ⟨e0,e1,e2⟩:=HI.out.s.at;obtain ⟨r0,r1,r2⟩:=HI.out.r.at;have t0:=HI.out.r.frz 0;have t1:=HI.out.r.frz 1;have t2:=HI.out.r.frz 2;have HX:Hid (At3 (put3 wr rb s') rb s'∧fin=(W',s')∧RWA (put3 wr rb s') p F' ia ic L q W'∧Step F F' w (put3 wr rb s')):=⟨x3,hfn,x1,x2⟩;have hrs:¬rb=sb:=by have:=HRS.out;omega
   clear HI x3 hfn x1 x2;obtain ⟨wb,hwb⟩:∃wb,W'.bad=wb:=⟨_,rfl⟩;rw [hwb] at c16 hend;clear hwb;by_cases hlt:k<m
   ·have:wb=true:=by rcases hend with e|e;exact e;omega
    subst this;clear hend;go_wp2;refine bodyPost_ret (results_cell_row rfl _ _ rb _ #[.int .i64 s'.p,.int .i64 s'.b,.int .i64 s'.l] (0,0) _ rfl HX.out.1 Tryz.underlying98 rfl (by kernel_rfl)) rfl ?_;rw [HX.out.2.1];exact ⟨rfl,F',HX.out.2.2⟩
   ·clear hend;go_wp2;refine bodyPost_ret (results_cell_row rfl _ _ rb _ #[.int .i64 s'.p,.int .i64 s'.b,.int .i64 s'.l] (0,0) _ rfl HX.out.1 Tryz.underlying98 rfl (by kernel_rfl)) rfl ?_;rw [HX.out.2.1];exact ⟨rfl,F',HX.out.2.2⟩
  ·have hb':W'.bad=false:=by cases e:W'.bad with|true=>exact absurd (.inl e) hend|false=>rfl
   have hlt:k<m:=by by_cases e:k=m;exact absurd (.inr e) hend;omega
   clear hend;rw [hb'] at c16;have hkl':k<l.length:=by rw [HOK.out.2.2.2.2.1];exact hlt
   obtain ⟨b,off,hg,-,hbs,a4⟩:=HI.out.row k hkl';subst hg;have hxo:=HOK.out.2.2.2.1 _ (getD_mem hkl');have hob:=okC_bd hxo;have hk0':0<W'.kd.length:=by rw [HI.out.kl];exact HNK.out
   have HC:Hid (∀w1,Below wr.heap.size wr w1→Calls Tryz.prog 45 #[.pointer (some ⟨p,0,none⟩),.int .i64 (l.getD k c40).a,.int .i64 (lv:Int),.bool false] w1 fun e w'=>e=.returned (s3V (wtr L lv false (l.getD k c40).a W').2)∧∃F2,RWA w' p F2 ia ic L q (wtr L lv false (l.getD k c40).a W').1∧Step F' F2 w1 w'):=fun w1 hb1=>HIH.out w1 F' W' (l.getD k c40).a false (HI.out.rw.below hk0' hb1) hb' HI.out.ok hk0' (by omega)
   have hwo:=wtr_ok HOK.out.2.2.1 lv false (l.getD k c40).a W' HI.out.ok;have HNX:Hid (∀w1 w2 F2,Below wr.heap.size wr w1→Step F' F2 w1 w2→_):=fun w1 w2 F2 hb1 st=>HI.out.next hkl' hb' hxo hb1 hwo.1 st (by have:=HRS.out;omega)
   have hbd:=HI.out.bd hb';have hlw:sb<wr.heap.size∧b<wr.heap.size:=⟨HI.out.s.lt,a4.lt⟩;have HXL:Hid (0<(wtr L lv false (l.getD k c40).a W').1.kd.length):=by show 0<_;rw [wtr_len];exact hk0'
   have HSN:Hid (∀F2 w5,Step F' F2 wr w5→¬F2 sb∧¬obl ia sb):=fun F2 w5 st=>⟨st.notin HI.out.s.lt HI.out.ns.1,HI.out.ns.2.1⟩
   obtain ⟨x,hx⟩:∃x,l.getD k c40=x:=⟨_,rfl⟩;rw [hx] at HC HNX a4 hob hwo HXL;obtain ⟨xa,xb,xc,xd⟩:=x;obtain ⟨a40,a41,a42,a43⟩:=a4;simp only at HC HNX a40 a41 a42 a43 hob hwo HXL;obtain ⟨X,hX⟩:∃X,wtr L lv false xa W'=X:=⟨_,rfl⟩;rw [hX] at HC HNX hwo HXL;obtain ⟨XW,Xs⟩:=X;obtain ⟨xp,xq,xl⟩:=Xs;unfold s3V at HC;simp only at HC HNX hwo;obtain ⟨-,⟨wp,wb,wl⟩⟩:=hwo;have hbL:bdL lv≤2000000000:=by unfold bdL;have:=HOK.out.2.2.2.2.2;omega
   obtain ⟨bl,hbl⟩:∃bl,bdL lv=bl:=⟨_,rfl⟩;rw [hbl] at wp wb wl hbL;obtain ⟨sp,sq,sl⟩:=s';obtain ⟨b1,b2,b3⟩:=hbd;simp only at wp wb wl b1 b2 b3;clear hx hX hxo hkl' hk0' hbl;go_wp2_with fail
   refine (HC.out wr (Below.refl _ _)).mono ?_;rintro e w5 ⟨rfl,F2,h2,st2⟩;obtain ⟨⟨h3',a4'⟩,hnx⟩:=HNX.out wr w5 F2 (Below.refl _ _) st2;obtain ⟨v40,v41,v42,v43⟩:=a4' b off rfl;simp only at v40 v41 v42 v43;obtain ⟨e0,e1,e2⟩:=h3'.at;simp only at e0 e1 e2;have HNX2:Hid _:=hnx;have H3P:Hid (At3 w5 sb ⟨sp,sq,sl⟩):=h3';have ls5:sb<w5.heap.size:=h3'.lt;have lb5:b<w5.heap.size:=block_lt_of_cell v40;have HSN:Hid (¬F2 sb∧¬obl ia sb):=HSN.out F2 w5 st2;have H2:Hid (RWA w5 p F2 ia ic L q XW∧wr.heap.size≤w5.heap.size∧0<XW.kd.length):=⟨h2,st2.1.size,HXL.out⟩;clear h2 st2 h3' a4' hnx HNX HC c16 a40 a41 a42 a43;by_cases q1:xp=xb
   ·subst q1;by_cases q2:xq=xc
    ·subst q2;by_cases q3:xl=xd
     ·subst q3;go_wp2;go_quiet (fail)
      obtain ⟨w6,hw6⟩:∃w6,((w5.alloc (Obj.cells #[Value.int IntKind.i64 xp,Value.int IntKind.i64 xq,Value.int IntKind.i64 xl] 98)).drewN nq)=w6:=⟨_,rfl⟩;obtain ⟨HB6,hx6⟩:=sums_new w5 ⟨xp,xq,xl⟩ nq w6 hw6;rw [hw6];have H6:Hid (RWA w6 p F2 ia ic L q XW∧At3 w6 sb ⟨sp,sq,sl⟩):=⟨H2.out.1.below H2.out.2.2 HB6,H3P.out.keep (HB6.block sb ls5)⟩;obtain ⟨x0,x1,x2⟩:=hx6.at;simp only at x0 x1 x2;obtain ⟨d0,d1,d2⟩:=H6.out.2.at;simp only at d0 d1 d2;have y0:=H6.out.2.frz 0;have y1:=H6.out.2.frz 1;have y2:=H6.out.2.frz 2;have z16:=H6.out.1.c16;obtain ⟨g5,hg5⟩:∃g5,w5.heap.size=g5:=⟨_,rfl⟩;have HG:Hid (wr.heap.size≤g5∧Ch w5.heap.size (fun x=>x=sb∨x=p∨wr.heap.size≤x) w5 w6):=⟨by have:=H2.out.2.1;omega,Ch.of _ HB6⟩;rw [hg5] at x0 x1 x2 ls5 lb5 ⊢;have np:¬sb=p:=fun e=>HSN.out.1 (e▸H6.out.1.fp)
      have ng:¬g5=p:=fun e=>by have:=H2.out.1.lt p H2.out.1.fp;omega
      clear hw6 HB6 hx6 e0 e1 e2 v40 v41 v42 v43 hg5 H3P;obtain ⟨c16,z16⟩:=z16;go_wp2;obtain ⟨f1,f2,f3⟩:=kid_good (y:=⟨xa,xp,xq,xl⟩) (x:=⟨xp,xq,xl⟩) H6.out.1 H6.out.2 H2.out.2.2 HSN.out.1 HSN.out.2 (by simp [kdQ]) HG.out.2;exact ⟨⟨k+1,_,_,F2,by omega,by go_num,HNX2.out _ f1 f2 f3⟩,by simp [intOf];omega⟩
     ·have q3':(xl==xd)=false:=by simpa using q3
      have q3'':(xl !=xd)=true:=by simpa using q3
      have HQ:Hid (kdQ ⟨xp,xq,xl⟩ ⟨xa,xp,xq,xd⟩=false):=by show kdQ _ _=false;unfold kdQ;simp only;rw [q3'];simp
      go_wp2;go_quiet (fail)
      obtain ⟨w6,hw6⟩:∃w6,((w5.alloc (Obj.cells #[Value.int IntKind.i64 xp,Value.int IntKind.i64 xq,Value.int IntKind.i64 xl] 98)).drewN nq)=w6:=⟨_,rfl⟩;obtain ⟨HB6,hx6⟩:=sums_new w5 ⟨xp,xq,xl⟩ nq w6 hw6;rw [hw6];have H6:Hid (RWA w6 p F2 ia ic L q XW∧At3 w6 sb ⟨sp,sq,sl⟩):=⟨H2.out.1.below H2.out.2.2 HB6,H3P.out.keep (HB6.block sb ls5)⟩;obtain ⟨x0,x1,x2⟩:=hx6.at;simp only at x0 x1 x2;obtain ⟨d0,d1,d2⟩:=H6.out.2.at;simp only at d0 d1 d2;have y0:=H6.out.2.frz 0;have y1:=H6.out.2.frz 1;have y2:=H6.out.2.frz 2;have z16:=H6.out.1.c16;obtain ⟨g5,hg5⟩:∃g5,w5.heap.size=g5:=⟨_,rfl⟩;have HG:Hid (wr.heap.size≤g5∧Ch w5.heap.size (fun x=>x=sb∨x=p∨wr.heap.size≤x) w5 w6):=⟨by have:=H2.out.2.1;omega,Ch.of _ HB6⟩;rw [hg5] at x0 x1 x2 ls5 lb5 ⊢;have np:¬sb=p:=fun e=>HSN.out.1 (e▸H6.out.1.fp)
      have ng:¬g5=p:=fun e=>by have:=H2.out.1.lt p H2.out.1.fp;omega
      clear hw6 HB6 hx6 e0 e1 e2 v40 v41 v42 v43 hg5 H3P q3 q3' q3'';obtain ⟨c16,z16⟩:=z16;go_wp2;obtain ⟨f1,f2,f3⟩:=kid_bad (y:=⟨xa,xp,xq,xd⟩) (x:=⟨xp,xq,xl⟩) H6.out.1 H6.out.2 H2.out.2.2 HSN.out.1 HSN.out.2 np HQ.out HG.out.2;exact ⟨⟨k+1,_,_,F2,by omega,by go_num,HNX2.out _ f1 f2 f3⟩,by simp [intOf];omega⟩
    ·have q2':(xq==xc)=false:=by simpa using q2
     have q2'':(xq !=xc)=true:=by simpa using q2
     have HQ:Hid (kdQ ⟨xp,xq,xl⟩ ⟨xa,xp,xc,xd⟩=false):=by show kdQ _ _=false;unfold kdQ;simp only;rw [q2'];simp
     go_wp2;go_quiet (fail)
     obtain ⟨w6,hw6⟩:∃w6,((w5.alloc (Obj.cells #[Value.int IntKind.i64 xp,Value.int IntKind.i64 xq,Value.int IntKind.i64 xl] 98)).drewN nq)=w6:=⟨_,rfl⟩;obtain ⟨HB6,hx6⟩:=sums_new w5 ⟨xp,xq,xl⟩ nq w6 hw6;rw [hw6];have H6:Hid (RWA w6 p F2 ia ic L q XW∧At3 w6 sb ⟨sp,sq,sl⟩):=⟨H2.out.1.below H2.out.2.2 HB6,H3P.out.keep (HB6.block sb ls5)⟩;obtain ⟨x0,x1,x2⟩:=hx6.at;simp only at x0 x1 x2;obtain ⟨d0,d1,d2⟩:=H6.out.2.at;simp only at d0 d1 d2;have y0:=H6.out.2.frz 0;have y1:=H6.out.2.frz 1;have y2:=H6.out.2.frz 2;have z16:=H6.out.1.c16;obtain ⟨g5,hg5⟩:∃g5,w5.heap.size=g5:=⟨_,rfl⟩;have HG:Hid (wr.heap.size≤g5∧Ch w5.heap.size (fun x=>x=sb∨x=p∨wr.heap.size≤x) w5 w6):=⟨by have:=H2.out.2.1;omega,Ch.of _ HB6⟩;rw [hg5] at x0 x1 x2 ls5 lb5 ⊢;have np:¬sb=p:=fun e=>HSN.out.1 (e▸H6.out.1.fp)
     have ng:¬g5=p:=fun e=>by have:=H2.out.1.lt p H2.out.1.fp;omega
     clear hw6 HB6 hx6 e0 e1 e2 v40 v41 v42 v43 hg5 H3P q2 q2' q2'';obtain ⟨c16,z16⟩:=z16;go_wp2;obtain ⟨f1,f2,f3⟩:=kid_bad (y:=⟨xa,xp,xc,xd⟩) (x:=⟨xp,xq,xl⟩) H6.out.1 H6.out.2 H2.out.2.2 HSN.out.1 HSN.out.2 np HQ.out HG.out.2;exact ⟨⟨k+1,_,_,F2,by omega,by go_num,HNX2.out _ f1 f2 f3⟩,by simp [intOf];omega⟩
   ·have q1':(xp==xb)=false:=by simpa using q1
    have q1'':(xp !=xb)=true:=by simpa using q1
    have HQ:Hid (kdQ ⟨xp,xq,xl⟩ ⟨xa,xb,xc,xd⟩=false):=by show kdQ _ _=false;unfold kdQ;simp only;rw [q1'];simp
    go_wp2;go_quiet (fail)
    obtain ⟨w6,hw6⟩:∃w6,((w5.alloc (Obj.cells #[Value.int IntKind.i64 xp,Value.int IntKind.i64 xq,Value.int IntKind.i64 xl] 98)).drewN nq)=w6:=⟨_,rfl⟩;obtain ⟨HB6,hx6⟩:=sums_new w5 ⟨xp,xq,xl⟩ nq w6 hw6;rw [hw6];have H6:Hid (RWA w6 p F2 ia ic L q XW∧At3 w6 sb ⟨sp,sq,sl⟩):=⟨H2.out.1.below H2.out.2.2 HB6,H3P.out.keep (HB6.block sb ls5)⟩;obtain ⟨x0,x1,x2⟩:=hx6.at;simp only at x0 x1 x2;obtain ⟨d0,d1,d2⟩:=H6.out.2.at;simp only at d0 d1 d2;have y0:=H6.out.2.frz 0;have y1:=H6.out.2.frz 1;have y2:=H6.out.2.frz 2;have z16:=H6.out.1.c16;obtain ⟨g5,hg5⟩:∃g5,w5.heap.size=g5:=⟨_,rfl⟩;have HG:Hid (wr.heap.size≤g5∧Ch w5.heap.size (fun x=>x=sb∨x=p∨wr.heap.size≤x) w5 w6):=⟨by have:=H2.out.2.1;omega,Ch.of _ HB6⟩;rw [hg5] at x0 x1 x2 ls5 lb5 ⊢;have np:¬sb=p:=fun e=>HSN.out.1 (e▸H6.out.1.fp)
    have ng:¬g5=p:=fun e=>by have:=H2.out.1.lt p H2.out.1.fp;omega
    clear hw6 HB6 hx6 e0 e1 e2 v40 v41 v42 v43 hg5 H3P q1 q1' q1'';obtain ⟨c16,z16⟩:=z16;go_wp2;obtain ⟨f1,f2,f3⟩:=kid_bad (y:=⟨xa,xb,xc,xd⟩) (x:=⟨xp,xq,xl⟩) H6.out.1 H6.out.2 H2.out.2.2 HSN.out.1 HSN.out.2 np HQ.out HG.out.2;exact ⟨⟨k+1,_,_,F2,by omega,by go_num,HNX2.out _ f1 f2 f3⟩,by simp [intOf];omega⟩
set_option maxRecDepth 20000 in
theorem tree_n (hLB:Bys L) (lv:Nat) (hlv:lv≤40) (IH:TreeC p ia ic L q lv) (h:RWA w p F ia ic L q W) (hbad:W.bad=false) (hok:WkOk W) (hk0:0<W.kd.length) (n:Int) (hk:kdB W n 116=true) (z:List Int) (hz:pageOf L n.toNat=z) (l:List C4) (hL:reL true z=l) (m:Nat) (hm:l.length=m) (lv1:Nat) (hlv1:lv+1=lv1) (hE:reE true z=0) (hV:reV true z=(lv1:Int)) (hmm:6≤m):
  Calls Tryz.prog 45 #[.pointer (some ⟨p,0,none⟩),.int .i64 n,.int .i64 (lv1:Int),.bool false] w fun e w'=>e=.returned (s3V (kdGo (wtr L lv false) l ({W with kd:=W.kd.set n.toNat 116},s30)).2)∧∃F',RWA w' p F' ia ic L q (kdGo (wtr L lv false) l ({W with kd:=W.kd.set n.toNat 116},s30)).1∧Step F F' w w':=by
 obtain ⟨gk,ck,aP,aT,cP,cT,h⟩:=h;have hp:=page_yes (h.below hk0 (w':=w.alloc (.cells #[.int .i64 0,.int .i64 0,.int .i64 0] 98)) ((Below.refl _ w).alloc (Nat.le_refl _) _)) n 116 (by omega) hk;rw [hz] at hp
 have HA:Hid (∀w1,Ch (w.alloc (.cells #[.int .i64 0,.int .i64 0,.int .i64 0] 98)).heap.size F (w.alloc (.cells #[.int .i64 0,.int .i64 0,.int .i64 0] 98)) w1→At3 w1 w.heap.size s30∧Step F F w w1):=fun w1 hc=>by
  refine ⟨?_,Step.of ((Ch.of F ((Below.refl _ w).alloc (Nat.le_refl _) _)).trans (hc.mono (by simp) (fun _ _ e=>e)))⟩;show w1.heap[w.heap.size]?=_;rw [hc.block w.heap.size (by simp) (fun e=>by have:=h.lt _ e;omega)];exact heap_alloc_new w _
 have hlb:=reL_bd (t:=true) (page_bys hLB n.toNat);rw [hz,hL] at hlb;have HOK:Hid ((WkOk W∧W.bad=false∧0<W.kd.length)∧(¬F w.heap.size∧¬obl ia w.heap.size)∧Bys L∧(∀x∈l,okC true x=true)∧l.length=m∧lv+1=lv1):=⟨⟨hok,hbad,hk0⟩,⟨fun e=>by have:=h.lt _ e;omega,fun e=>by have:=h.ilt hk0 _ e;omega⟩,hLB,hlb.2,hm,hlv1⟩;have HFL:Hid (∀k,F k→k<w.heap.size):=h.lt;have HIH:Hid (TreeC p ia ic L q lv):=IH;obtain ⟨fin,hfin⟩:∃fin,kdGo (wtr L lv false) l ({W with kd:=W.kd.set n.toNat 116},s30)=fin:=⟨_,rfl⟩;have HFIN:Hid (kdGo (wtr L lv false) l ({W with kd:=W.kd.set n.toNat 116},s30)=fin):=hfin;rw [hfin];have hm20:m≤20:=by omega
 have HEV:Hid (reE true z=0∧reV true z=(lv1:Int)∧reL true z=l):=⟨hE,hV,hL⟩;have hlvi:((lv1:Int)-1)=(lv:Int):=by omega
 have hlv0:0<lv1:=by omega
 have hlv2:lv1≤50:=by omega
 obtain ⟨rb,hrb⟩:∃rb,w.heap.size=rb:=⟨_,rfl⟩;have HRB:Hid (w.heap.size=rb):=hrb;clear h hk hok hbad hk0 hLB hlb hz hL hfin hm IH hlv1 hrb hE hV hlv;go_enter Tryz.func45,Tryz.ntmps45
 go_wp2_with fail
 refine hp.mono ?_;clear hp;rintro e w1 ⟨⟨a',c',rfl,hr1,hl1,-⟩,h1,hc1⟩;obtain ⟨h3,st⟩:=HA.out w1 hc1;obtain ⟨-,-,-,-,c16⟩:=h1.at;have z16:=h1.frz 16;simp only [HOK.out.1.2.1] at c16;rw [HRB.out] at h3 ⊢;have hkd:=rkids_v (some a') c' 256 z w1 hr1 hl1 _ HEV.out.1 l HEV.out.2.2 m HOK.out.2.2.2.2.1 _ HEV.out.2.1;have H1:Hid (RWA w1 p F ia ic L q {W with kd:=W.kd.set n.toNat 116}∧Step F F w w1∧At3 w1 rb s30):=⟨⟨_,_,_,_,_,_,h1⟩,st,h3⟩;have hlp:p<w1.heap.size:=h1.lt p h1.fp;clear h1 hc1 h3 st hr1 hl1 HA;go_wp2_with fail
 refine hkd.mono ?_;clear hkd;rintro e w2 ⟨g,c,rfl,hown,hb2⟩;have d16:=(hb2.cell (p:=⟨p,16,none⟩) hlp).trans c16;have y16:=(hb2.frozen (p:=⟨p,16,none⟩) hlp).trans z16;have HNK:Hid (0<(W.kd.set n.toNat 116).length):=by show 0<_;rw [List.length_set];exact HOK.out.1.2.2
 have H2:Hid (RWA w2 p F ia ic L q {W with kd:=W.kd.set n.toNat 116}∧Ch w.heap.size F w w2∧At3 w2 rb s30∧RowC w2 g c l∧(∀k,obl g k→¬F k∧k<w2.heap.size)):=by
  refine ⟨H1.out.1.below HNK.out hb2,H1.out.2.1.1.trans (Ch.of F (hb2.mono H1.out.2.1.1.size)),H1.out.2.2.keep (hb2.block rb H1.out.2.2.lt),(OwnC.row' hown (fun x hx=>wfC_ok (HOK.out.2.2.2.1 x hx))).2.1,fun k hk=>?_⟩;have:=World.ownsRow.lt hown k (own_obl hk);exact ⟨fun e=>by have:=H1.out.1.lt k e;omega,this.2⟩
 clear hown hb2 c16 z16 H1 hlp;go_wp2
 have HI0:Hid (TrI w (w2.alloc (.cells #[.int .i64 0,.int .i64 0,.int .i64 0] 98)) p F F ia ic L q (W.kd.set n.toNat 116).length lv l g rb w2.heap.size 0 {W with kd:=W.kd.set n.toNat 116} s30 fin):=by
  have:=TrI.start (lv:=lv) (fin:=fin) H2.out.1 (wpk_ok HOK.out.1.1 n.toNat 116) HNK.out H2.out.2.1 H2.out.2.2.1 H2.out.2.2.2.2 H2.out.2.2.2.1 (by rw [←HRB.out];exact HOK.out.2.1) HFIN.out;exact this
 obtain ⟨sb,hsb⟩:∃sb,w2.heap.size=sb:=⟨_,rfl⟩;have HRS:Hid (rb<sb):=by show _<_;rw [←hsb];exact H2.out.2.2.1.lt
 rw [hsb] at HI0 ⊢;obtain ⟨wq,hwq⟩:∃wq,w2=wq:=⟨_,rfl⟩;rw [hwq] at HI0 ⊢;clear hwq;obtain ⟨w3,hw3⟩:∃w3,wq.alloc (.cells #[.int .i64 0,.int .i64 0,.int .i64 0] 98)=w3:=⟨_,rfl⟩;rw [hw3] at HI0 ⊢;clear hw3 hsb H2 d16 y16 HFIN HEV hmm;go_loopw [14] (fun i wr=>∃(k:Nat) (W':Wk) (s':S3) (F':Nat→Prop),k≤m∧i=.int .i64 k∧Hid (TrI w wr p F F' ia ic L q (W.kd.set n.toNat 116).length lv l g rb sb k W' s' fin)) (fun i _=>m-(intOf i).toNat)
 case atStart=>exact ⟨0,_,_,_,Nat.zero_le _,rfl,HI0.out⟩
 case round=>
  clear HI0;obtain ⟨k,W',s',F',hk,rfl,HI⟩:=hrel;have c16:=HI.out.rw.c16.1;by_cases hend:W'.bad=true∨k=m
  ·obtain ⟨x3,hfn,x1,x2⟩:=HI.out.done HNK.out (by have:=HRB.out;omega) (by rcases hend with e|e;exact .inl e;exact .inr (e.trans HOK.out.2.2.2.2.1.symm));obtain ⟨e0,e1,e2⟩:=HI.out.s.at;obtain ⟨r0,r1,r2⟩:=HI.out.r.at;have t0:=HI.out.r.frz 0;have t1:=HI.out.r.frz 1;have t2:=HI.out.r.frz 2;have HX:Hid (At3 (put3 wr rb s') rb s'∧fin=(W',s')∧RWA (put3 wr rb s') p F' ia ic L q W'∧Step F F' w (put3 wr rb s')):=⟨x3,hfn,x1,x2⟩;have hrs:¬rb=sb:=by have:=HRS.out;omega
   clear HI x3 hfn x1 x2;obtain ⟨wb,hwb⟩:∃wb,W'.bad=wb:=⟨_,rfl⟩;rw [hwb] at c16 hend;clear hwb;by_cases hlt:k<m
   ·have:wb=true:=by rcases hend with e|e;exact e;omega
    subst this;clear hend;go_wp2;refine bodyPost_ret (results_cell_row rfl _ _ rb _ #[.int .i64 s'.p,.int .i64 s'.b,.int .i64 s'.l] (0,0) _ rfl HX.out.1 Tryz.underlying98 rfl (by kernel_rfl)) rfl ?_;rw [HX.out.2.1];exact ⟨rfl,F',HX.out.2.2⟩
   ·clear hend;go_wp2;refine bodyPost_ret (results_cell_row rfl _ _ rb _ #[.int .i64 s'.p,.int .i64 s'.b,.int .i64 s'.l] (0,0) _ rfl HX.out.1 Tryz.underlying98 rfl (by kernel_rfl)) rfl ?_;rw [HX.out.2.1];exact ⟨rfl,F',HX.out.2.2⟩
  ·have hb':W'.bad=false:=by cases e:W'.bad with|true=>exact absurd (.inl e) hend|false=>rfl
   have hlt:k<m:=by by_cases e:k=m;exact absurd (.inr e) hend;omega
   clear hend;rw [hb'] at c16;have hkl':k<l.length:=by rw [HOK.out.2.2.2.2.1];exact hlt
   obtain ⟨b,off,hg,-,hbs,a4⟩:=HI.out.row k hkl';subst hg;have hxo:=HOK.out.2.2.2.1 _ (getD_mem hkl');have hob:=okC_bd hxo;have hk0':0<W'.kd.length:=by rw [HI.out.kl];exact HNK.out
   have HC:Hid (∀w1,Below wr.heap.size wr w1→Calls Tryz.prog 45 #[.pointer (some ⟨p,0,none⟩),.int .i64 (l.getD k c40).a,.int .i64 (lv:Int),.bool false] w1 fun e w'=>e=.returned (s3V (wtr L lv false (l.getD k c40).a W').2)∧∃F2,RWA w' p F2 ia ic L q (wtr L lv false (l.getD k c40).a W').1∧Step F' F2 w1 w'):=fun w1 hb1=>HIH.out w1 F' W' (l.getD k c40).a false (HI.out.rw.below hk0' hb1) hb' HI.out.ok hk0' (by omega)
   have hwo:=wtr_ok HOK.out.2.2.1 lv false (l.getD k c40).a W' HI.out.ok;have HNX:Hid (∀w1 w2 F2,Below wr.heap.size wr w1→Step F' F2 w1 w2→_):=fun w1 w2 F2 hb1 st=>HI.out.next hkl' hb' hxo hb1 hwo.1 st (by have:=HRS.out;omega)
   have hbd:=HI.out.bd hb';have hlw:sb<wr.heap.size∧b<wr.heap.size:=⟨HI.out.s.lt,a4.lt⟩;have HXL:Hid (0<(wtr L lv false (l.getD k c40).a W').1.kd.length):=by show 0<_;rw [wtr_len];exact hk0'
   have HSN:Hid (∀F2 w5,Step F' F2 wr w5→¬F2 sb∧¬obl ia sb):=fun F2 w5 st=>⟨st.notin HI.out.s.lt HI.out.ns.1,HI.out.ns.2.1⟩
   obtain ⟨x,hx⟩:∃x,l.getD k c40=x:=⟨_,rfl⟩;rw [hx] at HC HNX a4 hob hwo HXL;obtain ⟨xa,xb,xc,xd⟩:=x;obtain ⟨a40,a41,a42,a43⟩:=a4;simp only at HC HNX a40 a41 a42 a43 hob hwo HXL;obtain ⟨X,hX⟩:∃X,wtr L lv false xa W'=X:=⟨_,rfl⟩;rw [hX] at HC HNX hwo HXL;obtain ⟨XW,Xs⟩:=X;obtain ⟨xp,xq,xl⟩:=Xs;unfold s3V at HC;simp only at HC HNX hwo;obtain ⟨-,⟨wp,wb,wl⟩⟩:=hwo;have hbL:bdL lv≤2000000000:=by unfold bdL;have:=HOK.out.2.2.2.2.2;omega
   obtain ⟨bl,hbl⟩:∃bl,bdL lv=bl:=⟨_,rfl⟩;rw [hbl] at wp wb wl hbL;obtain ⟨sp,sq,sl⟩:=s';obtain ⟨b1,b2,b3⟩:=hbd;simp only at wp wb wl b1 b2 b3;clear hx hX hxo hkl' hk0' hbl;go_wp2_with fail
   refine (HC.out wr (Below.refl _ _)).mono ?_;rintro e w5 ⟨rfl,F2,h2,st2⟩;obtain ⟨⟨h3',a4'⟩,hnx⟩:=HNX.out wr w5 F2 (Below.refl _ _) st2;obtain ⟨v40,v41,v42,v43⟩:=a4' b off rfl;simp only at v40 v41 v42 v43;obtain ⟨e0,e1,e2⟩:=h3'.at;simp only at e0 e1 e2;have HNX2:Hid _:=hnx;have H3P:Hid (At3 w5 sb ⟨sp,sq,sl⟩):=h3';have ls5:sb<w5.heap.size:=h3'.lt;have lb5:b<w5.heap.size:=block_lt_of_cell v40;have HSN:Hid (¬F2 sb∧¬obl ia sb):=HSN.out F2 w5 st2;have H2:Hid (RWA w5 p F2 ia ic L q XW∧wr.heap.size≤w5.heap.size∧0<XW.kd.length):=⟨h2,st2.1.size,HXL.out⟩;clear h2 st2 h3' a4' hnx HNX HC c16 a40 a41 a42 a43;by_cases q1:xp=xb
   ·subst q1;by_cases q2:xq=xc
    ·subst q2;by_cases q3:xl=xd
     ·subst q3;go_wp2;go_quiet (fail)
      obtain ⟨w6,hw6⟩:∃w6,((w5.alloc (Obj.cells #[Value.int IntKind.i64 xp,Value.int IntKind.i64 xq,Value.int IntKind.i64 xl] 98)).drewN nq)=w6:=⟨_,rfl⟩;obtain ⟨HB6,hx6⟩:=sums_new w5 ⟨xp,xq,xl⟩ nq w6 hw6;rw [hw6];have H6:Hid (RWA w6 p F2 ia ic L q XW∧At3 w6 sb ⟨sp,sq,sl⟩):=⟨H2.out.1.below H2.out.2.2 HB6,H3P.out.keep (HB6.block sb ls5)⟩;obtain ⟨x0,x1,x2⟩:=hx6.at;simp only at x0 x1 x2;obtain ⟨d0,d1,d2⟩:=H6.out.2.at;simp only at d0 d1 d2;have y0:=H6.out.2.frz 0;have y1:=H6.out.2.frz 1;have y2:=H6.out.2.frz 2;have z16:=H6.out.1.c16;obtain ⟨g5,hg5⟩:∃g5,w5.heap.size=g5:=⟨_,rfl⟩;have HG:Hid (wr.heap.size≤g5∧Ch w5.heap.size (fun x=>x=sb∨x=p∨wr.heap.size≤x) w5 w6):=⟨by have:=H2.out.2.1;omega,Ch.of _ HB6⟩;rw [hg5] at x0 x1 x2 ls5 lb5 ⊢;have np:¬sb=p:=fun e=>HSN.out.1 (e▸H6.out.1.fp)
      have ng:¬g5=p:=fun e=>by have:=H2.out.1.lt p H2.out.1.fp;omega
      clear hw6 HB6 hx6 e0 e1 e2 v40 v41 v42 v43 hg5 H3P;obtain ⟨c16,z16⟩:=z16;go_wp2;obtain ⟨f1,f2,f3⟩:=kid_good (y:=⟨xa,xp,xq,xl⟩) (x:=⟨xp,xq,xl⟩) H6.out.1 H6.out.2 H2.out.2.2 HSN.out.1 HSN.out.2 (by simp [kdQ]) HG.out.2;exact ⟨⟨k+1,_,_,F2,by omega,by go_num,HNX2.out _ f1 f2 f3⟩,by simp [intOf];omega⟩
     ·have q3':(xl==xd)=false:=by simpa using q3
      have q3'':(xl !=xd)=true:=by simpa using q3
      have HQ:Hid (kdQ ⟨xp,xq,xl⟩ ⟨xa,xp,xq,xd⟩=false):=by show kdQ _ _=false;unfold kdQ;simp only;rw [q3'];simp
      go_wp2;go_quiet (fail)
      obtain ⟨w6,hw6⟩:∃w6,((w5.alloc (Obj.cells #[Value.int IntKind.i64 xp,Value.int IntKind.i64 xq,Value.int IntKind.i64 xl] 98)).drewN nq)=w6:=⟨_,rfl⟩;obtain ⟨HB6,hx6⟩:=sums_new w5 ⟨xp,xq,xl⟩ nq w6 hw6;rw [hw6];have H6:Hid (RWA w6 p F2 ia ic L q XW∧At3 w6 sb ⟨sp,sq,sl⟩):=⟨H2.out.1.below H2.out.2.2 HB6,H3P.out.keep (HB6.block sb ls5)⟩;obtain ⟨x0,x1,x2⟩:=hx6.at;simp only at x0 x1 x2;obtain ⟨d0,d1,d2⟩:=H6.out.2.at;simp only at d0 d1 d2;have y0:=H6.out.2.frz 0;have y1:=H6.out.2.frz 1;have y2:=H6.out.2.frz 2;have z16:=H6.out.1.c16;obtain ⟨g5,hg5⟩:∃g5,w5.heap.size=g5:=⟨_,rfl⟩;have HG:Hid (wr.heap.size≤g5∧Ch w5.heap.size (fun x=>x=sb∨x=p∨wr.heap.size≤x) w5 w6):=⟨by have:=H2.out.2.1;omega,Ch.of _ HB6⟩;rw [hg5] at x0 x1 x2 ls5 lb5 ⊢;have np:¬sb=p:=fun e=>HSN.out.1 (e▸H6.out.1.fp)
      have ng:¬g5=p:=fun e=>by have:=H2.out.1.lt p H2.out.1.fp;omega
      clear hw6 HB6 hx6 e0 e1 e2 v40 v41 v42 v43 hg5 H3P q3 q3' q3'';obtain ⟨c16,z16⟩:=z16;go_wp2;obtain ⟨f1,f2,f3⟩:=kid_bad (y:=⟨xa,xp,xq,xd⟩) (x:=⟨xp,xq,xl⟩) H6.out.1 H6.out.2 H2.out.2.2 HSN.out.1 HSN.out.2 np HQ.out HG.out.2;exact ⟨⟨k+1,_,_,F2,by omega,by go_num,HNX2.out _ f1 f2 f3⟩,by simp [intOf];omega⟩
    ·have q2':(xq==xc)=false:=by simpa using q2
     have q2'':(xq !=xc)=true:=by simpa using q2
     have HQ:Hid (kdQ ⟨xp,xq,xl⟩ ⟨xa,xp,xc,xd⟩=false):=by show kdQ _ _=false;unfold kdQ;simp only;rw [q2'];simp
     go_wp2;go_quiet (fail)
     obtain ⟨w6,hw6⟩:∃w6,((w5.alloc (Obj.cells #[Value.int IntKind.i64 xp,Value.int IntKind.i64 xq,Value.int IntKind.i64 xl] 98)).drewN nq)=w6:=⟨_,rfl⟩;obtain ⟨HB6,hx6⟩:=sums_new w5 ⟨xp,xq,xl⟩ nq w6 hw6;rw [hw6];have H6:Hid (RWA w6 p F2 ia ic L q XW∧At3 w6 sb ⟨sp,sq,sl⟩):=⟨H2.out.1.below H2.out.2.2 HB6,H3P.out.keep (HB6.block sb ls5)⟩;obtain ⟨x0,x1,x2⟩:=hx6.at;simp only at x0 x1 x2;obtain ⟨d0,d1,d2⟩:=H6.out.2.at;simp only at d0 d1 d2;have y0:=H6.out.2.frz 0;have y1:=H6.out.2.frz 1;have y2:=H6.out.2.frz 2;have z16:=H6.out.1.c16;obtain ⟨g5,hg5⟩:∃g5,w5.heap.size=g5:=⟨_,rfl⟩;have HG:Hid (wr.heap.size≤g5∧Ch w5.heap.size (fun x=>x=sb∨x=p∨wr.heap.size≤x) w5 w6):=⟨by have:=H2.out.2.1;omega,Ch.of _ HB6⟩;rw [hg5] at x0 x1 x2 ls5 lb5 ⊢;have np:¬sb=p:=fun e=>HSN.out.1 (e▸H6.out.1.fp)
     have ng:¬g5=p:=fun e=>by have:=H2.out.1.lt p H2.out.1.fp;omega
     clear hw6 HB6 hx6 e0 e1 e2 v40 v41 v42 v43 hg5 H3P q2 q2' q2'';obtain ⟨c16,z16⟩:=z16;go_wp2;obtain ⟨f1,f2,f3⟩:=kid_bad (y:=⟨xa,xp,xc,xd⟩) (x:=⟨xp,xq,xl⟩) H6.out.1 H6.out.2 H2.out.2.2 HSN.out.1 HSN.out.2 np HQ.out HG.out.2;exact ⟨⟨k+1,_,_,F2,by omega,by go_num,HNX2.out _ f1 f2 f3⟩,by simp [intOf];omega⟩
   ·have q1':(xp==xb)=false:=by simpa using q1
    have q1'':(xp !=xb)=true:=by simpa using q1
    have HQ:Hid (kdQ ⟨xp,xq,xl⟩ ⟨xa,xb,xc,xd⟩=false):=by show kdQ _ _=false;unfold kdQ;simp only;rw [q1'];simp
    go_wp2;go_quiet (fail)
    obtain ⟨w6,hw6⟩:∃w6,((w5.alloc (Obj.cells #[Value.int IntKind.i64 xp,Value.int IntKind.i64 xq,Value.int IntKind.i64 xl] 98)).drewN nq)=w6:=⟨_,rfl⟩;obtain ⟨HB6,hx6⟩:=sums_new w5 ⟨xp,xq,xl⟩ nq w6 hw6;rw [hw6];have H6:Hid (RWA w6 p F2 ia ic L q XW∧At3 w6 sb ⟨sp,sq,sl⟩):=⟨H2.out.1.below H2.out.2.2 HB6,H3P.out.keep (HB6.block sb ls5)⟩;obtain ⟨x0,x1,x2⟩:=hx6.at;simp only at x0 x1 x2;obtain ⟨d0,d1,d2⟩:=H6.out.2.at;simp only at d0 d1 d2;have y0:=H6.out.2.frz 0;have y1:=H6.out.2.frz 1;have y2:=H6.out.2.frz 2;have z16:=H6.out.1.c16;obtain ⟨g5,hg5⟩:∃g5,w5.heap.size=g5:=⟨_,rfl⟩;have HG:Hid (wr.heap.size≤g5∧Ch w5.heap.size (fun x=>x=sb∨x=p∨wr.heap.size≤x) w5 w6):=⟨by have:=H2.out.2.1;omega,Ch.of _ HB6⟩;rw [hg5] at x0 x1 x2 ls5 lb5 ⊢;have np:¬sb=p:=fun e=>HSN.out.1 (e▸H6.out.1.fp)
    have ng:¬g5=p:=fun e=>by have:=H2.out.1.lt p H2.out.1.fp;omega
    clear hw6 HB6 hx6 e0 e1 e2 v40 v41 v42 v43 hg5 H3P q1 q1' q1'';obtain ⟨c16,z16⟩:=z16;go_wp2;obtain ⟨f1,f2,f3⟩:=kid_bad (y:=⟨xa,xb,xc,xd⟩) (x:=⟨xp,xq,xl⟩) H6.out.1 H6.out.2 H2.out.2.2 HSN.out.1 HSN.out.2 np HQ.out HG.out.2;exact ⟨⟨k+1,_,_,F2,by omega,by go_num,HNX2.out _ f1 f2 f3⟩,by simp [intOf];omega⟩
end
section
variable {w w':World} {p ic:Nat} {F:Nat→Prop} {ia:Option Addr} {L:List Int} {q:Nat→Value} {W:Wk}
set_option maxRecDepth 20000 in
theorem tree_e (hLB:Bys L) (lv:Nat) (hlv:lv≤40) (IH:TreeC p ia ic L q lv) (h:RWA w p F ia ic L q W) (hbad:W.bad=false) (hok:WkOk W) (hk0:0<W.kd.length) (n:Int) (hk:kdB W n 116=true) (root:Bool) (z:List Int) (hz:pageOf L n.toNat=z) (l:List C4) (hL:reL true z=l) (m:Nat) (hm:l.length=m) (lv1:Nat) (hlv1:lv+1=lv1) (E:Int) (hE:reE true z=E) (hE1:(E !=0)=true) (V:Int) (hV:reV true z=V):
  Calls Tryz.prog 45 #[.pointer (some ⟨p,0,none⟩),.int .i64 n,.int .i64 (lv1:Int),.bool root] w fun e w'=>e=.returned (s3V (kdGo (wtr L lv false) l ({W with kd:=W.kd.set n.toNat 116,bad:=true},s30)).2)∧∃F',RWA w' p F' ia ic L q (kdGo (wtr L lv false) l ({W with kd:=W.kd.set n.toNat 116,bad:=true},s30)).1∧Step F F' w w':=by
 obtain ⟨gk,ck,aP,aT,cP,cT,h⟩:=h;have hp:=page_yes (h.below hk0 (w':=w.alloc (.cells #[.int .i64 0,.int .i64 0,.int .i64 0] 98)) ((Below.refl _ w).alloc (Nat.le_refl _) _)) n 116 (by omega) hk;rw [hz] at hp
 have HA:Hid (∀w1,Ch (w.alloc (.cells #[.int .i64 0,.int .i64 0,.int .i64 0] 98)).heap.size F (w.alloc (.cells #[.int .i64 0,.int .i64 0,.int .i64 0] 98)) w1→At3 w1 w.heap.size s30∧Step F F w w1):=fun w1 hc=>by
  refine ⟨?_,Step.of ((Ch.of F ((Below.refl _ w).alloc (Nat.le_refl _) _)).trans (hc.mono (by simp) (fun _ _ e=>e)))⟩;show w1.heap[w.heap.size]?=_;rw [hc.block w.heap.size (by simp) (fun e=>by have:=h.lt _ e;omega)];exact heap_alloc_new w _
 have hlb:=reL_bd (t:=true) (page_bys hLB n.toNat);rw [hz,hL] at hlb;have HOK:Hid ((WkOk W∧W.bad=false∧0<W.kd.length)∧(¬F w.heap.size∧¬obl ia w.heap.size)∧Bys L∧(∀x∈l,okC true x=true)∧l.length=m∧lv+1=lv1):=⟨⟨hok,hbad,hk0⟩,⟨fun e=>by have:=h.lt _ e;omega,fun e=>by have:=h.ilt hk0 _ e;omega⟩,hLB,hlb.2,hm,hlv1⟩;have HFL:Hid (∀k,F k→k<w.heap.size):=h.lt;have HIH:Hid (TreeC p ia ic L q lv):=IH;obtain ⟨fin,hfin⟩:∃fin,kdGo (wtr L lv false) l ({W with kd:=W.kd.set n.toNat 116,bad:=true},s30)=fin:=⟨_,rfl⟩;have HFIN:Hid (kdGo (wtr L lv false) l ({W with kd:=W.kd.set n.toNat 116,bad:=true},s30)=fin):=hfin;rw [hfin];have hm20:m≤20:=by omega
 have HEV:Hid (reE true z=E∧reV true z=V∧reL true z=l):=⟨hE,hV,hL⟩;have hlvi:((lv1:Int)-1)=(lv:Int):=by omega
 have hlv0:0<lv1:=by omega
 have hlv2:lv1≤50:=by omega
 obtain ⟨rb,hrb⟩:∃rb,w.heap.size=rb:=⟨_,rfl⟩;have HRB:Hid (w.heap.size=rb):=hrb;clear h hk hok hbad hk0 hLB hlb hz hL hfin hm IH hlv1 hrb hE hV hlv;go_enter Tryz.func45,Tryz.ntmps45
 go_wp2_with fail
 refine hp.mono ?_;clear hp;rintro e w1 ⟨⟨a',c',rfl,hr1,hl1,-⟩,h1,hc1⟩;obtain ⟨h3,st⟩:=HA.out w1 hc1;obtain ⟨-,-,-,-,c16⟩:=h1.at;have z16:=h1.frz 16;simp only [HOK.out.1.2.1] at c16;rw [HRB.out] at h3 ⊢;have hkd:=rkids_v (some a') c' 256 z w1 hr1 hl1 _ HEV.out.1 l HEV.out.2.2 m HOK.out.2.2.2.2.1 _ HEV.out.2.1;have H1:Hid (RWA w1 p F ia ic L q {W with kd:=W.kd.set n.toNat 116}∧Step F F w w1∧At3 w1 rb s30):=⟨⟨_,_,_,_,_,_,h1⟩,st,h3⟩;have hlp:p<w1.heap.size:=h1.lt p h1.fp;clear h1 hc1 h3 st hr1 hl1 HA;go_wp2_with fail
 refine hkd.mono ?_;clear hkd;rintro e w2 ⟨g,c,rfl,hown,hb2⟩;have d16:=(hb2.cell (p:=⟨p,16,none⟩) hlp).trans c16;have y16:=(hb2.frozen (p:=⟨p,16,none⟩) hlp).trans z16;have HNK:Hid (0<(W.kd.set n.toNat 116).length):=by show 0<_;rw [List.length_set];exact HOK.out.1.2.2
 have H2:Hid (RWA w2 p F ia ic L q {W with kd:=W.kd.set n.toNat 116}∧Ch w.heap.size F w w2∧At3 w2 rb s30∧RowC w2 g c l∧(∀k,obl g k→¬F k∧k<w2.heap.size)):=by
  refine ⟨H1.out.1.below HNK.out hb2,H1.out.2.1.1.trans (Ch.of F (hb2.mono H1.out.2.1.1.size)),H1.out.2.2.keep (hb2.block rb H1.out.2.2.lt),(OwnC.row' hown (fun x hx=>wfC_ok (HOK.out.2.2.2.1 x hx))).2.1,fun k hk=>?_⟩;have:=World.ownsRow.lt hown k (own_obl hk);exact ⟨fun e=>by have:=H1.out.1.lt k e;omega,this.2⟩
 clear hown hb2 c16 z16 H1 hlp;go_wp2
 have HI0:Hid (TrI w ((w2.setCell ⟨p,16,none⟩ (.bool true)).alloc (.cells #[.int .i64 0,.int .i64 0,.int .i64 0] 98)) p F F ia ic L q (W.kd.set n.toNat 116).length lv l g rb w2.heap.size 0 {W with kd:=W.kd.set n.toNat 116,bad:=true} s30 fin):=by
  have hch:Ch w2.heap.size (fun x=>x=p) w2 (w2.setCell ⟨p,16,none⟩ (.bool true)):=(Ch.refl _ (fun x=>x=p) w2).setCell (p:=⟨p,16,none⟩) (.inr rfl) _;have hnp:¬rb=p:=fun e=>by have:=HFL.out p H2.out.1.fp;have:=HRB.out;omega
  have:=TrI.start (lv:=lv) (fin:=fin) (H2.out.1.setBad true) (wpk_bd HOK.out.1.1 n.toNat 116) HNK.out (H2.out.2.1.trans (hch.mono H2.out.2.1.size (fun k hk e=>e▸H2.out.1.fp))) (H2.out.2.2.1.keep (hch.block rb H2.out.2.2.1.lt hnp)) (fun k hk=>by rw [size_setCell];exact H2.out.2.2.2.2 k hk) (H2.out.2.2.2.1.keepO (fun g hg=>hch.block g (H2.out.2.2.2.2 g hg).2 (fun e=>(H2.out.2.2.2.2 g hg).1 (e▸H2.out.1.fp)))) (by rw [←HRB.out];exact HOK.out.2.1) HFIN.out;rw [size_setCell] at this;exact this
 obtain ⟨sb,hsb⟩:∃sb,w2.heap.size=sb:=⟨_,rfl⟩;have HRS:Hid (rb<sb):=by show _<_;rw [←hsb];exact H2.out.2.2.1.lt
 rw [hsb] at HI0 ⊢;obtain ⟨wq,hwq⟩:∃wq,(w2.setCell ⟨p,16,none⟩ (.bool true))=wq:=⟨_,rfl⟩;rw [hwq] at HI0 ⊢;clear hwq;obtain ⟨w3,hw3⟩:∃w3,wq.alloc (.cells #[.int .i64 0,.int .i64 0,.int .i64 0] 98)=w3:=⟨_,rfl⟩;rw [hw3] at HI0 ⊢;clear hw3 hsb H2 d16 y16 HFIN HEV hE1;go_loopw [14] (fun i wr=>∃(k:Nat) (W':Wk) (s':S3) (F':Nat→Prop),k≤m∧i=.int .i64 k∧Hid (TrI w wr p F F' ia ic L q (W.kd.set n.toNat 116).length lv l g rb sb k W' s' fin)) (fun i _=>m-(intOf i).toNat)
 case atStart=>exact ⟨0,_,_,_,Nat.zero_le _,rfl,HI0.out⟩
 case round=>
  clear HI0;obtain ⟨k,W',s',F',hk,rfl,HI⟩:=hrel;have c16:=HI.out.rw.c16.1;by_cases hend:W'.bad=true∨k=m
  ·obtain ⟨x3,hfn,x1,x2⟩:=HI.out.done HNK.out (by have:=HRB.out;omega) (by rcases hend with e|e;exact .inl e;exact .inr (e.trans HOK.out.2.2.2.2.1.symm));obtain ⟨e0,e1,e2⟩:=HI.out.s.at;obtain ⟨r0,r1,r2⟩:=HI.out.r.at;have t0:=HI.out.r.frz 0;have t1:=HI.out.r.frz 1;have t2:=HI.out.r.frz 2;have HX:Hid (At3 (put3 wr rb s') rb s'∧fin=(W',s')∧RWA (put3 wr rb s') p F' ia ic L q W'∧Step F F' w (put3 wr rb s')):=⟨x3,hfn,x1,x2⟩;have hrs:¬rb=sb:=by have:=HRS.out;omega
   clear HI x3 hfn x1 x2;obtain ⟨wb,hwb⟩:∃wb,W'.bad=wb:=⟨_,rfl⟩;rw [hwb] at c16 hend;clear hwb;by_cases hlt:k<m
   ·have:wb=true:=by rcases hend with e|e;exact e;omega
    subst this;clear hend;go_wp2;refine bodyPost_ret (results_cell_row rfl _ _ rb _ #[.int .i64 s'.p,.int .i64 s'.b,.int .i64 s'.l] (0,0) _ rfl HX.out.1 Tryz.underlying98 rfl (by kernel_rfl)) rfl ?_;rw [HX.out.2.1];exact ⟨rfl,F',HX.out.2.2⟩
   ·clear hend;go_wp2;refine bodyPost_ret (results_cell_row rfl _ _ rb _ #[.int .i64 s'.p,.int .i64 s'.b,.int .i64 s'.l] (0,0) _ rfl HX.out.1 Tryz.underlying98 rfl (by kernel_rfl)) rfl ?_;rw [HX.out.2.1];exact ⟨rfl,F',HX.out.2.2⟩
  ·have hb':W'.bad=false:=by cases e:W'.bad with|true=>exact absurd (.inl e) hend|false=>rfl
   have hlt:k<m:=by by_cases e:k=m;exact absurd (.inr e) hend;omega
   clear hend;rw [hb'] at c16;have hkl':k<l.length:=by rw [HOK.out.2.2.2.2.1];exact hlt
   obtain ⟨b,off,hg,-,hbs,a4⟩:=HI.out.row k hkl';subst hg;have hxo:=HOK.out.2.2.2.1 _ (getD_mem hkl');have hob:=okC_bd hxo;have hk0':0<W'.kd.length:=by rw [HI.out.kl];exact HNK.out
   have HC:Hid (∀w1,Below wr.heap.size wr w1→Calls Tryz.prog 45 #[.pointer (some ⟨p,0,none⟩),.int .i64 (l.getD k c40).a,.int .i64 (lv:Int),.bool false] w1 fun e w'=>e=.returned (s3V (wtr L lv false (l.getD k c40).a W').2)∧∃F2,RWA w' p F2 ia ic L q (wtr L lv false (l.getD k c40).a W').1∧Step F' F2 w1 w'):=fun w1 hb1=>HIH.out w1 F' W' (l.getD k c40).a false (HI.out.rw.below hk0' hb1) hb' HI.out.ok hk0' (by omega)
   have hwo:=wtr_ok HOK.out.2.2.1 lv false (l.getD k c40).a W' HI.out.ok;have HNX:Hid (∀w1 w2 F2,Below wr.heap.size wr w1→Step F' F2 w1 w2→_):=fun w1 w2 F2 hb1 st=>HI.out.next hkl' hb' hxo hb1 hwo.1 st (by have:=HRS.out;omega)
   have hbd:=HI.out.bd hb';have hlw:sb<wr.heap.size∧b<wr.heap.size:=⟨HI.out.s.lt,a4.lt⟩;have HXL:Hid (0<(wtr L lv false (l.getD k c40).a W').1.kd.length):=by show 0<_;rw [wtr_len];exact hk0'
   have HSN:Hid (∀F2 w5,Step F' F2 wr w5→¬F2 sb∧¬obl ia sb):=fun F2 w5 st=>⟨st.notin HI.out.s.lt HI.out.ns.1,HI.out.ns.2.1⟩
   obtain ⟨x,hx⟩:∃x,l.getD k c40=x:=⟨_,rfl⟩;rw [hx] at HC HNX a4 hob hwo HXL;obtain ⟨xa,xb,xc,xd⟩:=x;obtain ⟨a40,a41,a42,a43⟩:=a4;simp only at HC HNX a40 a41 a42 a43 hob hwo HXL;obtain ⟨X,hX⟩:∃X,wtr L lv false xa W'=X:=⟨_,rfl⟩;rw [hX] at HC HNX hwo HXL;obtain ⟨XW,Xs⟩:=X;obtain ⟨xp,xq,xl⟩:=Xs;unfold s3V at HC;simp only at HC HNX hwo;obtain ⟨-,⟨wp,wb,wl⟩⟩:=hwo;have hbL:bdL lv≤2000000000:=by unfold bdL;have:=HOK.out.2.2.2.2.2;omega
   obtain ⟨bl,hbl⟩:∃bl,bdL lv=bl:=⟨_,rfl⟩;rw [hbl] at wp wb wl hbL;obtain ⟨sp,sq,sl⟩:=s';obtain ⟨b1,b2,b3⟩:=hbd;simp only at wp wb wl b1 b2 b3;clear hx hX hxo hkl' hk0' hbl;go_wp2_with fail
   refine (HC.out wr (Below.refl _ _)).mono ?_;rintro e w5 ⟨rfl,F2,h2,st2⟩;obtain ⟨⟨h3',a4'⟩,hnx⟩:=HNX.out wr w5 F2 (Below.refl _ _) st2;obtain ⟨v40,v41,v42,v43⟩:=a4' b off rfl;simp only at v40 v41 v42 v43;obtain ⟨e0,e1,e2⟩:=h3'.at;simp only at e0 e1 e2;have HNX2:Hid _:=hnx;have H3P:Hid (At3 w5 sb ⟨sp,sq,sl⟩):=h3';have ls5:sb<w5.heap.size:=h3'.lt;have lb5:b<w5.heap.size:=block_lt_of_cell v40;have HSN:Hid (¬F2 sb∧¬obl ia sb):=HSN.out F2 w5 st2;have H2:Hid (RWA w5 p F2 ia ic L q XW∧wr.heap.size≤w5.heap.size∧0<XW.kd.length):=⟨h2,st2.1.size,HXL.out⟩;clear h2 st2 h3' a4' hnx HNX HC c16 a40 a41 a42 a43;by_cases q1:xp=xb
   ·subst q1;by_cases q2:xq=xc
    ·subst q2;by_cases q3:xl=xd
     ·subst q3;go_wp2;go_quiet (fail)
      obtain ⟨w6,hw6⟩:∃w6,((w5.alloc (Obj.cells #[Value.int IntKind.i64 xp,Value.int IntKind.i64 xq,Value.int IntKind.i64 xl] 98)).drewN nq)=w6:=⟨_,rfl⟩;obtain ⟨HB6,hx6⟩:=sums_new w5 ⟨xp,xq,xl⟩ nq w6 hw6;rw [hw6];have H6:Hid (RWA w6 p F2 ia ic L q XW∧At3 w6 sb ⟨sp,sq,sl⟩):=⟨H2.out.1.below H2.out.2.2 HB6,H3P.out.keep (HB6.block sb ls5)⟩;obtain ⟨x0,x1,x2⟩:=hx6.at;simp only at x0 x1 x2;obtain ⟨d0,d1,d2⟩:=H6.out.2.at;simp only at d0 d1 d2;have y0:=H6.out.2.frz 0;have y1:=H6.out.2.frz 1;have y2:=H6.out.2.frz 2;have z16:=H6.out.1.c16;obtain ⟨g5,hg5⟩:∃g5,w5.heap.size=g5:=⟨_,rfl⟩;have HG:Hid (wr.heap.size≤g5∧Ch w5.heap.size (fun x=>x=sb∨x=p∨wr.heap.size≤x) w5 w6):=⟨by have:=H2.out.2.1;omega,Ch.of _ HB6⟩;rw [hg5] at x0 x1 x2 ls5 lb5 ⊢;have np:¬sb=p:=fun e=>HSN.out.1 (e▸H6.out.1.fp)
      have ng:¬g5=p:=fun e=>by have:=H2.out.1.lt p H2.out.1.fp;omega
      clear hw6 HB6 hx6 e0 e1 e2 v40 v41 v42 v43 hg5 H3P;obtain ⟨c16,z16⟩:=z16;go_wp2;obtain ⟨f1,f2,f3⟩:=kid_good (y:=⟨xa,xp,xq,xl⟩) (x:=⟨xp,xq,xl⟩) H6.out.1 H6.out.2 H2.out.2.2 HSN.out.1 HSN.out.2 (by simp [kdQ]) HG.out.2;exact ⟨⟨k+1,_,_,F2,by omega,by go_num,HNX2.out _ f1 f2 f3⟩,by simp [intOf];omega⟩
     ·have q3':(xl==xd)=false:=by simpa using q3
      have q3'':(xl !=xd)=true:=by simpa using q3
      have HQ:Hid (kdQ ⟨xp,xq,xl⟩ ⟨xa,xp,xq,xd⟩=false):=by show kdQ _ _=false;unfold kdQ;simp only;rw [q3'];simp
      go_wp2;go_quiet (fail)
      obtain ⟨w6,hw6⟩:∃w6,((w5.alloc (Obj.cells #[Value.int IntKind.i64 xp,Value.int IntKind.i64 xq,Value.int IntKind.i64 xl] 98)).drewN nq)=w6:=⟨_,rfl⟩;obtain ⟨HB6,hx6⟩:=sums_new w5 ⟨xp,xq,xl⟩ nq w6 hw6;rw [hw6];have H6:Hid (RWA w6 p F2 ia ic L q XW∧At3 w6 sb ⟨sp,sq,sl⟩):=⟨H2.out.1.below H2.out.2.2 HB6,H3P.out.keep (HB6.block sb ls5)⟩;obtain ⟨x0,x1,x2⟩:=hx6.at;simp only at x0 x1 x2;obtain ⟨d0,d1,d2⟩:=H6.out.2.at;simp only at d0 d1 d2;have y0:=H6.out.2.frz 0;have y1:=H6.out.2.frz 1;have y2:=H6.out.2.frz 2;have z16:=H6.out.1.c16;obtain ⟨g5,hg5⟩:∃g5,w5.heap.size=g5:=⟨_,rfl⟩;have HG:Hid (wr.heap.size≤g5∧Ch w5.heap.size (fun x=>x=sb∨x=p∨wr.heap.size≤x) w5 w6):=⟨by have:=H2.out.2.1;omega,Ch.of _ HB6⟩;rw [hg5] at x0 x1 x2 ls5 lb5 ⊢;have np:¬sb=p:=fun e=>HSN.out.1 (e▸H6.out.1.fp)
      have ng:¬g5=p:=fun e=>by have:=H2.out.1.lt p H2.out.1.fp;omega
      clear hw6 HB6 hx6 e0 e1 e2 v40 v41 v42 v43 hg5 H3P q3 q3' q3'';obtain ⟨c16,z16⟩:=z16;go_wp2;obtain ⟨f1,f2,f3⟩:=kid_bad (y:=⟨xa,xp,xq,xd⟩) (x:=⟨xp,xq,xl⟩) H6.out.1 H6.out.2 H2.out.2.2 HSN.out.1 HSN.out.2 np HQ.out HG.out.2;exact ⟨⟨k+1,_,_,F2,by omega,by go_num,HNX2.out _ f1 f2 f3⟩,by simp [intOf];omega⟩
    ·have q2':(xq==xc)=false:=by simpa using q2
     have q2'':(xq !=xc)=true:=by simpa using q2
     have HQ:Hid (kdQ ⟨xp,xq,xl⟩ ⟨xa,xp,xc,xd⟩=false):=by show kdQ _ _=false;unfold kdQ;simp only;rw [q2'];simp
     go_wp2;go_quiet (fail)
     obtain ⟨w6,hw6⟩:∃w6,((w5.alloc (Obj.cells #[Value.int IntKind.i64 xp,Value.int IntKind.i64 xq,Value.int IntKind.i64 xl] 98)).drewN nq)=w6:=⟨_,rfl⟩;obtain ⟨HB6,hx6⟩:=sums_new w5 ⟨xp,xq,xl⟩ nq w6 hw6;rw [hw6];have H6:Hid (RWA w6 p F2 ia ic L q XW∧At3 w6 sb ⟨sp,sq,sl⟩):=⟨H2.out.1.below H2.out.2.2 HB6,H3P.out.keep (HB6.block sb ls5)⟩;obtain ⟨x0,x1,x2⟩:=hx6.at;simp only at x0 x1 x2;obtain ⟨d0,d1,d2⟩:=H6.out.2.at;simp only at d0 d1 d2;have y0:=H6.out.2.frz 0;have y1:=H6.out.2.frz 1;have y2:=H6.out.2.frz 2;have z16:=H6.out.1.c16;obtain ⟨g5,hg5⟩:∃g5,w5.heap.size=g5:=⟨_,rfl⟩;have HG:Hid (wr.heap.size≤g5∧Ch w5.heap.size (fun x=>x=sb∨x=p∨wr.heap.size≤x) w5 w6):=⟨by have:=H2.out.2.1;omega,Ch.of _ HB6⟩;rw [hg5] at x0 x1 x2 ls5 lb5 ⊢;have np:¬sb=p:=fun e=>HSN.out.1 (e▸H6.out.1.fp)
     have ng:¬g5=p:=fun e=>by have:=H2.out.1.lt p H2.out.1.fp;omega
     clear hw6 HB6 hx6 e0 e1 e2 v40 v41 v42 v43 hg5 H3P q2 q2' q2'';obtain ⟨c16,z16⟩:=z16;go_wp2;obtain ⟨f1,f2,f3⟩:=kid_bad (y:=⟨xa,xp,xc,xd⟩) (x:=⟨xp,xq,xl⟩) H6.out.1 H6.out.2 H2.out.2.2 HSN.out.1 HSN.out.2 np HQ.out HG.out.2;exact ⟨⟨k+1,_,_,F2,by omega,by go_num,HNX2.out _ f1 f2 f3⟩,by simp [intOf];omega⟩
   ·have q1':(xp==xb)=false:=by simpa using q1
    have q1'':(xp !=xb)=true:=by simpa using q1
    have HQ:Hid (kdQ ⟨xp,xq,xl⟩ ⟨xa,xb,xc,xd⟩=false):=by show kdQ _ _=false;unfold kdQ;simp only;rw [q1'];simp
    go_wp2;go_quiet (fail)
    obtain ⟨w6,hw6⟩:∃w6,((w5.alloc (Obj.cells #[Value.int IntKind.i64 xp,Value.int IntKind.i64 xq,Value.int IntKind.i64 xl] 98)).drewN nq)=w6:=⟨_,rfl⟩;obtain ⟨HB6,hx6⟩:=sums_new w5 ⟨xp,xq,xl⟩ nq w6 hw6;rw [hw6];have H6:Hid (RWA w6 p F2 ia ic L q XW∧At3 w6 sb ⟨sp,sq,sl⟩):=⟨H2.out.1.below H2.out.2.2 HB6,H3P.out.keep (HB6.block sb ls5)⟩;obtain ⟨x0,x1,x2⟩:=hx6.at;simp only at x0 x1 x2;obtain ⟨d0,d1,d2⟩:=H6.out.2.at;simp only at d0 d1 d2;have y0:=H6.out.2.frz 0;have y1:=H6.out.2.frz 1;have y2:=H6.out.2.frz 2;have z16:=H6.out.1.c16;obtain ⟨g5,hg5⟩:∃g5,w5.heap.size=g5:=⟨_,rfl⟩;have HG:Hid (wr.heap.size≤g5∧Ch w5.heap.size (fun x=>x=sb∨x=p∨wr.heap.size≤x) w5 w6):=⟨by have:=H2.out.2.1;omega,Ch.of _ HB6⟩;rw [hg5] at x0 x1 x2 ls5 lb5 ⊢;have np:¬sb=p:=fun e=>HSN.out.1 (e▸H6.out.1.fp)
    have ng:¬g5=p:=fun e=>by have:=H2.out.1.lt p H2.out.1.fp;omega
    clear hw6 HB6 hx6 e0 e1 e2 v40 v41 v42 v43 hg5 H3P q1 q1' q1'';obtain ⟨c16,z16⟩:=z16;go_wp2;obtain ⟨f1,f2,f3⟩:=kid_bad (y:=⟨xa,xb,xc,xd⟩) (x:=⟨xp,xq,xl⟩) H6.out.1 H6.out.2 H2.out.2.2 HSN.out.1 HSN.out.2 np HQ.out HG.out.2;exact ⟨⟨k+1,_,_,F2,by omega,by go_num,HNX2.out _ f1 f2 f3⟩,by simp [intOf];omega⟩
set_option maxRecDepth 20000 in
theorem tree_v (hLB:Bys L) (lv:Nat) (hlv:lv≤40) (IH:TreeC p ia ic L q lv) (h:RWA w p F ia ic L q W) (hbad:W.bad=false) (hok:WkOk W) (hk0:0<W.kd.length) (n:Int) (hk:kdB W n 116=true) (root:Bool) (z:List Int) (hz:pageOf L n.toNat=z) (l:List C4) (hL:reL true z=l) (m:Nat) (hm:l.length=m) (lv1:Nat) (hlv1:lv+1=lv1) (hE:reE true z=0) (V:Int) (hV:reV true z=V) (hV1:(V !=(lv1:Int))=true):
  Calls Tryz.prog 45 #[.pointer (some ⟨p,0,none⟩),.int .i64 n,.int .i64 (lv1:Int),.bool root] w fun e w'=>e=.returned (s3V (kdGo (wtr L lv false) l ({W with kd:=W.kd.set n.toNat 116,bad:=true},s30)).2)∧∃F',RWA w' p F' ia ic L q (kdGo (wtr L lv false) l ({W with kd:=W.kd.set n.toNat 116,bad:=true},s30)).1∧Step F F' w w':=by
 obtain ⟨gk,ck,aP,aT,cP,cT,h⟩:=h;have hp:=page_yes (h.below hk0 (w':=w.alloc (.cells #[.int .i64 0,.int .i64 0,.int .i64 0] 98)) ((Below.refl _ w).alloc (Nat.le_refl _) _)) n 116 (by omega) hk;rw [hz] at hp
 have HA:Hid (∀w1,Ch (w.alloc (.cells #[.int .i64 0,.int .i64 0,.int .i64 0] 98)).heap.size F (w.alloc (.cells #[.int .i64 0,.int .i64 0,.int .i64 0] 98)) w1→At3 w1 w.heap.size s30∧Step F F w w1):=fun w1 hc=>by
  refine ⟨?_,Step.of ((Ch.of F ((Below.refl _ w).alloc (Nat.le_refl _) _)).trans (hc.mono (by simp) (fun _ _ e=>e)))⟩;show w1.heap[w.heap.size]?=_;rw [hc.block w.heap.size (by simp) (fun e=>by have:=h.lt _ e;omega)];exact heap_alloc_new w _
 have hlb:=reL_bd (t:=true) (page_bys hLB n.toNat);rw [hz,hL] at hlb;have HOK:Hid ((WkOk W∧W.bad=false∧0<W.kd.length)∧(¬F w.heap.size∧¬obl ia w.heap.size)∧Bys L∧(∀x∈l,okC true x=true)∧l.length=m∧lv+1=lv1):=⟨⟨hok,hbad,hk0⟩,⟨fun e=>by have:=h.lt _ e;omega,fun e=>by have:=h.ilt hk0 _ e;omega⟩,hLB,hlb.2,hm,hlv1⟩;have HFL:Hid (∀k,F k→k<w.heap.size):=h.lt;have HIH:Hid (TreeC p ia ic L q lv):=IH;obtain ⟨fin,hfin⟩:∃fin,kdGo (wtr L lv false) l ({W with kd:=W.kd.set n.toNat 116,bad:=true},s30)=fin:=⟨_,rfl⟩;have HFIN:Hid (kdGo (wtr L lv false) l ({W with kd:=W.kd.set n.toNat 116,bad:=true},s30)=fin):=hfin;rw [hfin];have hm20:m≤20:=by omega
 have HEV:Hid (reE true z=0∧reV true z=V∧reL true z=l):=⟨hE,hV,hL⟩;have hlvi:((lv1:Int)-1)=(lv:Int):=by omega
 have hlv0:0<lv1:=by omega
 have hlv2:lv1≤50:=by omega
 obtain ⟨rb,hrb⟩:∃rb,w.heap.size=rb:=⟨_,rfl⟩;have HRB:Hid (w.heap.size=rb):=hrb;clear h hk hok hbad hk0 hLB hlb hz hL hfin hm IH hlv1 hrb hE hV hlv;go_enter Tryz.func45,Tryz.ntmps45
 go_wp2_with fail
 refine hp.mono ?_;clear hp;rintro e w1 ⟨⟨a',c',rfl,hr1,hl1,-⟩,h1,hc1⟩;obtain ⟨h3,st⟩:=HA.out w1 hc1;obtain ⟨-,-,-,-,c16⟩:=h1.at;have z16:=h1.frz 16;simp only [HOK.out.1.2.1] at c16;rw [HRB.out] at h3 ⊢;have hkd:=rkids_v (some a') c' 256 z w1 hr1 hl1 _ HEV.out.1 l HEV.out.2.2 m HOK.out.2.2.2.2.1 _ HEV.out.2.1;have H1:Hid (RWA w1 p F ia ic L q {W with kd:=W.kd.set n.toNat 116}∧Step F F w w1∧At3 w1 rb s30):=⟨⟨_,_,_,_,_,_,h1⟩,st,h3⟩;have hlp:p<w1.heap.size:=h1.lt p h1.fp;clear h1 hc1 h3 st hr1 hl1 HA;go_wp2_with fail
 refine hkd.mono ?_;clear hkd;rintro e w2 ⟨g,c,rfl,hown,hb2⟩;have d16:=(hb2.cell (p:=⟨p,16,none⟩) hlp).trans c16;have y16:=(hb2.frozen (p:=⟨p,16,none⟩) hlp).trans z16;have HNK:Hid (0<(W.kd.set n.toNat 116).length):=by show 0<_;rw [List.length_set];exact HOK.out.1.2.2
 have H2:Hid (RWA w2 p F ia ic L q {W with kd:=W.kd.set n.toNat 116}∧Ch w.heap.size F w w2∧At3 w2 rb s30∧RowC w2 g c l∧(∀k,obl g k→¬F k∧k<w2.heap.size)):=by
  refine ⟨H1.out.1.below HNK.out hb2,H1.out.2.1.1.trans (Ch.of F (hb2.mono H1.out.2.1.1.size)),H1.out.2.2.keep (hb2.block rb H1.out.2.2.lt),(OwnC.row' hown (fun x hx=>wfC_ok (HOK.out.2.2.2.1 x hx))).2.1,fun k hk=>?_⟩;have:=World.ownsRow.lt hown k (own_obl hk);exact ⟨fun e=>by have:=H1.out.1.lt k e;omega,this.2⟩
 clear hown hb2 c16 z16 H1 hlp;go_wp2
 have HI0:Hid (TrI w ((w2.setCell ⟨p,16,none⟩ (.bool true)).alloc (.cells #[.int .i64 0,.int .i64 0,.int .i64 0] 98)) p F F ia ic L q (W.kd.set n.toNat 116).length lv l g rb w2.heap.size 0 {W with kd:=W.kd.set n.toNat 116,bad:=true} s30 fin):=by
  have hch:Ch w2.heap.size (fun x=>x=p) w2 (w2.setCell ⟨p,16,none⟩ (.bool true)):=(Ch.refl _ (fun x=>x=p) w2).setCell (p:=⟨p,16,none⟩) (.inr rfl) _;have hnp:¬rb=p:=fun e=>by have:=HFL.out p H2.out.1.fp;have:=HRB.out;omega
  have:=TrI.start (lv:=lv) (fin:=fin) (H2.out.1.setBad true) (wpk_bd HOK.out.1.1 n.toNat 116) HNK.out (H2.out.2.1.trans (hch.mono H2.out.2.1.size (fun k hk e=>e▸H2.out.1.fp))) (H2.out.2.2.1.keep (hch.block rb H2.out.2.2.1.lt hnp)) (fun k hk=>by rw [size_setCell];exact H2.out.2.2.2.2 k hk) (H2.out.2.2.2.1.keepO (fun g hg=>hch.block g (H2.out.2.2.2.2 g hg).2 (fun e=>(H2.out.2.2.2.2 g hg).1 (e▸H2.out.1.fp)))) (by rw [←HRB.out];exact HOK.out.2.1) HFIN.out;rw [size_setCell] at this;exact this
 obtain ⟨sb,hsb⟩:∃sb,w2.heap.size=sb:=⟨_,rfl⟩;have HRS:Hid (rb<sb):=by show _<_;rw [←hsb];exact H2.out.2.2.1.lt
 rw [hsb] at HI0 ⊢;obtain ⟨wq,hwq⟩:∃wq,(w2.setCell ⟨p,16,none⟩ (.bool true))=wq:=⟨_,rfl⟩;rw [hwq] at HI0 ⊢;clear hwq;obtain ⟨w3,hw3⟩:∃w3,wq.alloc (.cells #[.int .i64 0,.int .i64 0,.int .i64 0] 98)=w3:=⟨_,rfl⟩;rw [hw3] at HI0 ⊢;clear hw3 hsb H2 d16 y16 HFIN HEV hV1;go_loopw [14] (fun i wr=>∃(k:Nat) (W':Wk) (s':S3) (F':Nat→Prop),k≤m∧i=.int .i64 k∧Hid (TrI w wr p F F' ia ic L q (W.kd.set n.toNat 116).length lv l g rb sb k W' s' fin)) (fun i _=>m-(intOf i).toNat)
 case atStart=>exact ⟨0,_,_,_,Nat.zero_le _,rfl,HI0.out⟩
 case round=>
  clear HI0;obtain ⟨k,W',s',F',hk,rfl,HI⟩:=hrel;have c16:=HI.out.rw.c16.1;by_cases hend:W'.bad=true∨k=m
  ·obtain ⟨x3,hfn,x1,x2⟩:=HI.out.done HNK.out (by have:=HRB.out;omega) (by rcases hend with e|e;exact .inl e;exact .inr (e.trans HOK.out.2.2.2.2.1.symm));obtain ⟨e0,e1,e2⟩:=HI.out.s.at;obtain ⟨r0,r1,r2⟩:=HI.out.r.at;have t0:=HI.out.r.frz 0;have t1:=HI.out.r.frz 1;have t2:=HI.out.r.frz 2;have HX:Hid (At3 (put3 wr rb s') rb s'∧fin=(W',s')∧RWA (put3 wr rb s') p F' ia ic L q W'∧Step F F' w (put3 wr rb s')):=⟨x3,hfn,x1,x2⟩;have hrs:¬rb=sb:=by have:=HRS.out;omega
   clear HI x3 hfn x1 x2;obtain ⟨wb,hwb⟩:∃wb,W'.bad=wb:=⟨_,rfl⟩;rw [hwb] at c16 hend;clear hwb;by_cases hlt:k<m
   ·have:wb=true:=by rcases hend with e|e;exact e;omega
    subst this;clear hend;go_wp2;refine bodyPost_ret (results_cell_row rfl _ _ rb _ #[.int .i64 s'.p,.int .i64 s'.b,.int .i64 s'.l] (0,0) _ rfl HX.out.1 Tryz.underlying98 rfl (by kernel_rfl)) rfl ?_;rw [HX.out.2.1];exact ⟨rfl,F',HX.out.2.2⟩
   ·clear hend;go_wp2;refine bodyPost_ret (results_cell_row rfl _ _ rb _ #[.int .i64 s'.p,.int .i64 s'.b,.int .i64 s'.l] (0,0) _ rfl HX.out.1 Tryz.underlying98 rfl (by kernel_rfl)) rfl ?_;rw [HX.out.2.1];exact ⟨rfl,F',HX.out.2.2⟩
  ·have hb':W'.bad=false:=by cases e:W'.bad with|true=>exact absurd (.inl e) hend|false=>rfl
   have hlt:k<m:=by by_cases e:k=m;exact absurd (.inr e) hend;omega
   clear hend;rw [hb'] at c16;have hkl':k<l.length:=by rw [HOK.out.2.2.2.2.1];exact hlt
   obtain ⟨b,off,hg,-,hbs,a4⟩:=HI.out.row k hkl';subst hg;have hxo:=HOK.out.2.2.2.1 _ (getD_mem hkl');have hob:=okC_bd hxo;have hk0':0<W'.kd.length:=by rw [HI.out.kl];exact HNK.out
   have HC:Hid (∀w1,Below wr.heap.size wr w1→Calls Tryz.prog 45 #[.pointer (some ⟨p,0,none⟩),.int .i64 (l.getD k c40).a,.int .i64 (lv:Int),.bool false] w1 fun e w'=>e=.returned (s3V (wtr L lv false (l.getD k c40).a W').2)∧∃F2,RWA w' p F2 ia ic L q (wtr L lv false (l.getD k c40).a W').1∧Step F' F2 w1 w'):=fun w1 hb1=>HIH.out w1 F' W' (l.getD k c40).a false (HI.out.rw.below hk0' hb1) hb' HI.out.ok hk0' (by omega)
   have hwo:=wtr_ok HOK.out.2.2.1 lv false (l.getD k c40).a W' HI.out.ok;have HNX:Hid (∀w1 w2 F2,Below wr.heap.size wr w1→Step F' F2 w1 w2→_):=fun w1 w2 F2 hb1 st=>HI.out.next hkl' hb' hxo hb1 hwo.1 st (by have:=HRS.out;omega)
   have hbd:=HI.out.bd hb';have hlw:sb<wr.heap.size∧b<wr.heap.size:=⟨HI.out.s.lt,a4.lt⟩;have HXL:Hid (0<(wtr L lv false (l.getD k c40).a W').1.kd.length):=by show 0<_;rw [wtr_len];exact hk0'
   have HSN:Hid (∀F2 w5,Step F' F2 wr w5→¬F2 sb∧¬obl ia sb):=fun F2 w5 st=>⟨st.notin HI.out.s.lt HI.out.ns.1,HI.out.ns.2.1⟩
   obtain ⟨x,hx⟩:∃x,l.getD k c40=x:=⟨_,rfl⟩;rw [hx] at HC HNX a4 hob hwo HXL;obtain ⟨xa,xb,xc,xd⟩:=x;obtain ⟨a40,a41,a42,a43⟩:=a4;simp only at HC HNX a40 a41 a42 a43 hob hwo HXL;obtain ⟨X,hX⟩:∃X,wtr L lv false xa W'=X:=⟨_,rfl⟩;rw [hX] at HC HNX hwo HXL;obtain ⟨XW,Xs⟩:=X;obtain ⟨xp,xq,xl⟩:=Xs;unfold s3V at HC;simp only at HC HNX hwo;obtain ⟨-,⟨wp,wb,wl⟩⟩:=hwo;have hbL:bdL lv≤2000000000:=by unfold bdL;have:=HOK.out.2.2.2.2.2;omega
   obtain ⟨bl,hbl⟩:∃bl,bdL lv=bl:=⟨_,rfl⟩;rw [hbl] at wp wb wl hbL;obtain ⟨sp,sq,sl⟩:=s';obtain ⟨b1,b2,b3⟩:=hbd;simp only at wp wb wl b1 b2 b3;clear hx hX hxo hkl' hk0' hbl;go_wp2_with fail
   refine (HC.out wr (Below.refl _ _)).mono ?_;rintro e w5 ⟨rfl,F2,h2,st2⟩;obtain ⟨⟨h3',a4'⟩,hnx⟩:=HNX.out wr w5 F2 (Below.refl _ _) st2;obtain ⟨v40,v41,v42,v43⟩:=a4' b off rfl;simp only at v40 v41 v42 v43;obtain ⟨e0,e1,e2⟩:=h3'.at;simp only at e0 e1 e2;have HNX2:Hid _:=hnx;have H3P:Hid (At3 w5 sb ⟨sp,sq,sl⟩):=h3';have ls5:sb<w5.heap.size:=h3'.lt;have lb5:b<w5.heap.size:=block_lt_of_cell v40;have HSN:Hid (¬F2 sb∧¬obl ia sb):=HSN.out F2 w5 st2;have H2:Hid (RWA w5 p F2 ia ic L q XW∧wr.heap.size≤w5.heap.size∧0<XW.kd.length):=⟨h2,st2.1.size,HXL.out⟩;clear h2 st2 h3' a4' hnx HNX HC c16 a40 a41 a42 a43;by_cases q1:xp=xb
   ·subst q1;by_cases q2:xq=xc
    ·subst q2;by_cases q3:xl=xd
     ·subst q3;go_wp2;go_quiet (fail)
      obtain ⟨w6,hw6⟩:∃w6,((w5.alloc (Obj.cells #[Value.int IntKind.i64 xp,Value.int IntKind.i64 xq,Value.int IntKind.i64 xl] 98)).drewN nq)=w6:=⟨_,rfl⟩;obtain ⟨HB6,hx6⟩:=sums_new w5 ⟨xp,xq,xl⟩ nq w6 hw6;rw [hw6];have H6:Hid (RWA w6 p F2 ia ic L q XW∧At3 w6 sb ⟨sp,sq,sl⟩):=⟨H2.out.1.below H2.out.2.2 HB6,H3P.out.keep (HB6.block sb ls5)⟩;obtain ⟨x0,x1,x2⟩:=hx6.at;simp only at x0 x1 x2;obtain ⟨d0,d1,d2⟩:=H6.out.2.at;simp only at d0 d1 d2;have y0:=H6.out.2.frz 0;have y1:=H6.out.2.frz 1;have y2:=H6.out.2.frz 2;have z16:=H6.out.1.c16;obtain ⟨g5,hg5⟩:∃g5,w5.heap.size=g5:=⟨_,rfl⟩;have HG:Hid (wr.heap.size≤g5∧Ch w5.heap.size (fun x=>x=sb∨x=p∨wr.heap.size≤x) w5 w6):=⟨by have:=H2.out.2.1;omega,Ch.of _ HB6⟩;rw [hg5] at x0 x1 x2 ls5 lb5 ⊢;have np:¬sb=p:=fun e=>HSN.out.1 (e▸H6.out.1.fp)
      have ng:¬g5=p:=fun e=>by have:=H2.out.1.lt p H2.out.1.fp;omega
      clear hw6 HB6 hx6 e0 e1 e2 v40 v41 v42 v43 hg5 H3P;obtain ⟨c16,z16⟩:=z16;go_wp2;obtain ⟨f1,f2,f3⟩:=kid_good (y:=⟨xa,xp,xq,xl⟩) (x:=⟨xp,xq,xl⟩) H6.out.1 H6.out.2 H2.out.2.2 HSN.out.1 HSN.out.2 (by simp [kdQ]) HG.out.2;exact ⟨⟨k+1,_,_,F2,by omega,by go_num,HNX2.out _ f1 f2 f3⟩,by simp [intOf];omega⟩
     ·have q3':(xl==xd)=false:=by simpa using q3
      have q3'':(xl !=xd)=true:=by simpa using q3
      have HQ:Hid (kdQ ⟨xp,xq,xl⟩ ⟨xa,xp,xq,xd⟩=false):=by show kdQ _ _=false;unfold kdQ;simp only;rw [q3'];simp
      go_wp2;go_quiet (fail)
      obtain ⟨w6,hw6⟩:∃w6,((w5.alloc (Obj.cells #[Value.int IntKind.i64 xp,Value.int IntKind.i64 xq,Value.int IntKind.i64 xl] 98)).drewN nq)=w6:=⟨_,rfl⟩;obtain ⟨HB6,hx6⟩:=sums_new w5 ⟨xp,xq,xl⟩ nq w6 hw6;rw [hw6];have H6:Hid (RWA w6 p F2 ia ic L q XW∧At3 w6 sb ⟨sp,sq,sl⟩):=⟨H2.out.1.below H2.out.2.2 HB6,H3P.out.keep (HB6.block sb ls5)⟩;obtain ⟨x0,x1,x2⟩:=hx6.at;simp only at x0 x1 x2;obtain ⟨d0,d1,d2⟩:=H6.out.2.at;simp only at d0 d1 d2;have y0:=H6.out.2.frz 0;have y1:=H6.out.2.frz 1;have y2:=H6.out.2.frz 2;have z16:=H6.out.1.c16;obtain ⟨g5,hg5⟩:∃g5,w5.heap.size=g5:=⟨_,rfl⟩;have HG:Hid (wr.heap.size≤g5∧Ch w5.heap.size (fun x=>x=sb∨x=p∨wr.heap.size≤x) w5 w6):=⟨by have:=H2.out.2.1;omega,Ch.of _ HB6⟩;rw [hg5] at x0 x1 x2 ls5 lb5 ⊢;have np:¬sb=p:=fun e=>HSN.out.1 (e▸H6.out.1.fp)
      have ng:¬g5=p:=fun e=>by have:=H2.out.1.lt p H2.out.1.fp;omega
      clear hw6 HB6 hx6 e0 e1 e2 v40 v41 v42 v43 hg5 H3P q3 q3' q3'';obtain ⟨c16,z16⟩:=z16;go_wp2;obtain ⟨f1,f2,f3⟩:=kid_bad (y:=⟨xa,xp,xq,xd⟩) (x:=⟨xp,xq,xl⟩) H6.out.1 H6.out.2 H2.out.2.2 HSN.out.1 HSN.out.2 np HQ.out HG.out.2;exact ⟨⟨k+1,_,_,F2,by omega,by go_num,HNX2.out _ f1 f2 f3⟩,by simp [intOf];omega⟩
    ·have q2':(xq==xc)=false:=by simpa using q2
     have q2'':(xq !=xc)=true:=by simpa using q2
     have HQ:Hid (kdQ ⟨xp,xq,xl⟩ ⟨xa,xp,xc,xd⟩=false):=by show kdQ _ _=false;unfold kdQ;simp only;rw [q2'];simp
     go_wp2;go_quiet (fail)
     obtain ⟨w6,hw6⟩:∃w6,((w5.alloc (Obj.cells #[Value.int IntKind.i64 xp,Value.int IntKind.i64 xq,Value.int IntKind.i64 xl] 98)).drewN nq)=w6:=⟨_,rfl⟩;obtain ⟨HB6,hx6⟩:=sums_new w5 ⟨xp,xq,xl⟩ nq w6 hw6;rw [hw6];have H6:Hid (RWA w6 p F2 ia ic L q XW∧At3 w6 sb ⟨sp,sq,sl⟩):=⟨H2.out.1.below H2.out.2.2 HB6,H3P.out.keep (HB6.block sb ls5)⟩;obtain ⟨x0,x1,x2⟩:=hx6.at;simp only at x0 x1 x2;obtain ⟨d0,d1,d2⟩:=H6.out.2.at;simp only at d0 d1 d2;have y0:=H6.out.2.frz 0;have y1:=H6.out.2.frz 1;have y2:=H6.out.2.frz 2;have z16:=H6.out.1.c16;obtain ⟨g5,hg5⟩:∃g5,w5.heap.size=g5:=⟨_,rfl⟩;have HG:Hid (wr.heap.size≤g5∧Ch w5.heap.size (fun x=>x=sb∨x=p∨wr.heap.size≤x) w5 w6):=⟨by have:=H2.out.2.1;omega,Ch.of _ HB6⟩;rw [hg5] at x0 x1 x2 ls5 lb5 ⊢;have np:¬sb=p:=fun e=>HSN.out.1 (e▸H6.out.1.fp)
     have ng:¬g5=p:=fun e=>by have:=H2.out.1.lt p H2.out.1.fp;omega
     clear hw6 HB6 hx6 e0 e1 e2 v40 v41 v42 v43 hg5 H3P q2 q2' q2'';obtain ⟨c16,z16⟩:=z16;go_wp2;obtain ⟨f1,f2,f3⟩:=kid_bad (y:=⟨xa,xp,xc,xd⟩) (x:=⟨xp,xq,xl⟩) H6.out.1 H6.out.2 H2.out.2.2 HSN.out.1 HSN.out.2 np HQ.out HG.out.2;exact ⟨⟨k+1,_,_,F2,by omega,by go_num,HNX2.out _ f1 f2 f3⟩,by simp [intOf];omega⟩
   ·have q1':(xp==xb)=false:=by simpa using q1
    have q1'':(xp !=xb)=true:=by simpa using q1
    have HQ:Hid (kdQ ⟨xp,xq,xl⟩ ⟨xa,xb,xc,xd⟩=false):=by show kdQ _ _=false;unfold kdQ;simp only;rw [q1'];simp
    go_wp2;go_quiet (fail)
    obtain ⟨w6,hw6⟩:∃w6,((w5.alloc (Obj.cells #[Value.int IntKind.i64 xp,Value.int IntKind.i64 xq,Value.int IntKind.i64 xl] 98)).drewN nq)=w6:=⟨_,rfl⟩;obtain ⟨HB6,hx6⟩:=sums_new w5 ⟨xp,xq,xl⟩ nq w6 hw6;rw [hw6];have H6:Hid (RWA w6 p F2 ia ic L q XW∧At3 w6 sb ⟨sp,sq,sl⟩):=⟨H2.out.1.below H2.out.2.2 HB6,H3P.out.keep (HB6.block sb ls5)⟩;obtain ⟨x0,x1,x2⟩:=hx6.at;simp only at x0 x1 x2;obtain ⟨d0,d1,d2⟩:=H6.out.2.at;simp only at d0 d1 d2;have y0:=H6.out.2.frz 0;have y1:=H6.out.2.frz 1;have y2:=H6.out.2.frz 2;have z16:=H6.out.1.c16;obtain ⟨g5,hg5⟩:∃g5,w5.heap.size=g5:=⟨_,rfl⟩;have HG:Hid (wr.heap.size≤g5∧Ch w5.heap.size (fun x=>x=sb∨x=p∨wr.heap.size≤x) w5 w6):=⟨by have:=H2.out.2.1;omega,Ch.of _ HB6⟩;rw [hg5] at x0 x1 x2 ls5 lb5 ⊢;have np:¬sb=p:=fun e=>HSN.out.1 (e▸H6.out.1.fp)
    have ng:¬g5=p:=fun e=>by have:=H2.out.1.lt p H2.out.1.fp;omega
    clear hw6 HB6 hx6 e0 e1 e2 v40 v41 v42 v43 hg5 H3P q1 q1' q1'';obtain ⟨c16,z16⟩:=z16;go_wp2;obtain ⟨f1,f2,f3⟩:=kid_bad (y:=⟨xa,xb,xc,xd⟩) (x:=⟨xp,xq,xl⟩) H6.out.1 H6.out.2 H2.out.2.2 HSN.out.1 HSN.out.2 np HQ.out HG.out.2;exact ⟨⟨k+1,_,_,F2,by omega,by go_num,HNX2.out _ f1 f2 f3⟩,by simp [intOf];omega⟩
end
section
variable {w w':World} {p ic:Nat} {F:Nat→Prop} {ia:Option Addr} {L:List Int} {q:Nat→Value} {W:Wk}
set_option maxRecDepth 20000 in
theorem tree_s (hLB:Bys L) (lv:Nat) (hlv:lv≤40) (IH:TreeC p ia ic L q lv) (h:RWA w p F ia ic L q W) (hbad:W.bad=false) (hok:WkOk W) (hk0:0<W.kd.length) (n:Int) (hk:kdB W n 116=true) (root:Bool) (z:List Int) (hz:pageOf L n.toNat=z) (l:List C4) (hL:reL true z=l) (m:Nat) (hm:l.length=m) (lv1:Nat) (hlv1:lv+1=lv1) (hE:reE true z=0) (hV:reV true z=(lv1:Int)) (hmm:m<2):
  Calls Tryz.prog 45 #[.pointer (some ⟨p,0,none⟩),.int .i64 n,.int .i64 (lv1:Int),.bool root] w fun e w'=>e=.returned (s3V (kdGo (wtr L lv false) l ({W with kd:=W.kd.set n.toNat 116,bad:=true},s30)).2)∧∃F',RWA w' p F' ia ic L q (kdGo (wtr L lv false) l ({W with kd:=W.kd.set n.toNat 116,bad:=true},s30)).1∧Step F F' w w':=by
 obtain ⟨gk,ck,aP,aT,cP,cT,h⟩:=h;have hp:=page_yes (h.below hk0 (w':=w.alloc (.cells #[.int .i64 0,.int .i64 0,.int .i64 0] 98)) ((Below.refl _ w).alloc (Nat.le_refl _) _)) n 116 (by omega) hk;rw [hz] at hp
 have HA:Hid (∀w1,Ch (w.alloc (.cells #[.int .i64 0,.int .i64 0,.int .i64 0] 98)).heap.size F (w.alloc (.cells #[.int .i64 0,.int .i64 0,.int .i64 0] 98)) w1→At3 w1 w.heap.size s30∧Step F F w w1):=fun w1 hc=>by
  refine ⟨?_,Step.of ((Ch.of F ((Below.refl _ w).alloc (Nat.le_refl _) _)).trans (hc.mono (by simp) (fun _ _ e=>e)))⟩;show w1.heap[w.heap.size]?=_;rw [hc.block w.heap.size (by simp) (fun e=>by have:=h.lt _ e;omega)];exact heap_alloc_new w _
 have hlb:=reL_bd (t:=true) (page_bys hLB n.toNat);rw [hz,hL] at hlb;have HOK:Hid ((WkOk W∧W.bad=false∧0<W.kd.length)∧(¬F w.heap.size∧¬obl ia w.heap.size)∧Bys L∧(∀x∈l,okC true x=true)∧l.length=m∧lv+1=lv1):=⟨⟨hok,hbad,hk0⟩,⟨fun e=>by have:=h.lt _ e;omega,fun e=>by have:=h.ilt hk0 _ e;omega⟩,hLB,hlb.2,hm,hlv1⟩;have HFL:Hid (∀k,F k→k<w.heap.size):=h.lt;have HIH:Hid (TreeC p ia ic L q lv):=IH;obtain ⟨fin,hfin⟩:∃fin,kdGo (wtr L lv false) l ({W with kd:=W.kd.set n.toNat 116,bad:=true},s30)=fin:=⟨_,rfl⟩;have HFIN:Hid (kdGo (wtr L lv false) l ({W with kd:=W.kd.set n.toNat 116,bad:=true},s30)=fin):=hfin;rw [hfin];have hm20:m≤20:=by omega
 have HEV:Hid (reE true z=0∧reV true z=(lv1:Int)∧reL true z=l):=⟨hE,hV,hL⟩;have hlvi:((lv1:Int)-1)=(lv:Int):=by omega
 have hlv0:0<lv1:=by omega
 have hlv2:lv1≤50:=by omega
 obtain ⟨rb,hrb⟩:∃rb,w.heap.size=rb:=⟨_,rfl⟩;have HRB:Hid (w.heap.size=rb):=hrb;clear h hk hok hbad hk0 hLB hlb hz hL hfin hm IH hlv1 hrb hE hV hlv;go_enter Tryz.func45,Tryz.ntmps45
 go_wp2_with fail
 refine hp.mono ?_;clear hp;rintro e w1 ⟨⟨a',c',rfl,hr1,hl1,-⟩,h1,hc1⟩;obtain ⟨h3,st⟩:=HA.out w1 hc1;obtain ⟨-,-,-,-,c16⟩:=h1.at;have z16:=h1.frz 16;simp only [HOK.out.1.2.1] at c16;rw [HRB.out] at h3 ⊢;have hkd:=rkids_v (some a') c' 256 z w1 hr1 hl1 _ HEV.out.1 l HEV.out.2.2 m HOK.out.2.2.2.2.1 _ HEV.out.2.1;have H1:Hid (RWA w1 p F ia ic L q {W with kd:=W.kd.set n.toNat 116}∧Step F F w w1∧At3 w1 rb s30):=⟨⟨_,_,_,_,_,_,h1⟩,st,h3⟩;have hlp:p<w1.heap.size:=h1.lt p h1.fp;clear h1 hc1 h3 st hr1 hl1 HA;go_wp2_with fail
 refine hkd.mono ?_;clear hkd;rintro e w2 ⟨g,c,rfl,hown,hb2⟩;have d16:=(hb2.cell (p:=⟨p,16,none⟩) hlp).trans c16;have y16:=(hb2.frozen (p:=⟨p,16,none⟩) hlp).trans z16;have HNK:Hid (0<(W.kd.set n.toNat 116).length):=by show 0<_;rw [List.length_set];exact HOK.out.1.2.2
 have H2:Hid (RWA w2 p F ia ic L q {W with kd:=W.kd.set n.toNat 116}∧Ch w.heap.size F w w2∧At3 w2 rb s30∧RowC w2 g c l∧(∀k,obl g k→¬F k∧k<w2.heap.size)):=by
  refine ⟨H1.out.1.below HNK.out hb2,H1.out.2.1.1.trans (Ch.of F (hb2.mono H1.out.2.1.1.size)),H1.out.2.2.keep (hb2.block rb H1.out.2.2.lt),(OwnC.row' hown (fun x hx=>wfC_ok (HOK.out.2.2.2.1 x hx))).2.1,fun k hk=>?_⟩;have:=World.ownsRow.lt hown k (own_obl hk);exact ⟨fun e=>by have:=H1.out.1.lt k e;omega,this.2⟩
 clear hown hb2 c16 z16 H1 hlp;go_wp2
 have HI0:Hid (TrI w ((w2.setCell ⟨p,16,none⟩ (.bool true)).alloc (.cells #[.int .i64 0,.int .i64 0,.int .i64 0] 98)) p F F ia ic L q (W.kd.set n.toNat 116).length lv l g rb w2.heap.size 0 {W with kd:=W.kd.set n.toNat 116,bad:=true} s30 fin):=by
  have hch:Ch w2.heap.size (fun x=>x=p) w2 (w2.setCell ⟨p,16,none⟩ (.bool true)):=(Ch.refl _ (fun x=>x=p) w2).setCell (p:=⟨p,16,none⟩) (.inr rfl) _;have hnp:¬rb=p:=fun e=>by have:=HFL.out p H2.out.1.fp;have:=HRB.out;omega
  have:=TrI.start (lv:=lv) (fin:=fin) (H2.out.1.setBad true) (wpk_bd HOK.out.1.1 n.toNat 116) HNK.out (H2.out.2.1.trans (hch.mono H2.out.2.1.size (fun k hk e=>e▸H2.out.1.fp))) (H2.out.2.2.1.keep (hch.block rb H2.out.2.2.1.lt hnp)) (fun k hk=>by rw [size_setCell];exact H2.out.2.2.2.2 k hk) (H2.out.2.2.2.1.keepO (fun g hg=>hch.block g (H2.out.2.2.2.2 g hg).2 (fun e=>(H2.out.2.2.2.2 g hg).1 (e▸H2.out.1.fp)))) (by rw [←HRB.out];exact HOK.out.2.1) HFIN.out;rw [size_setCell] at this;exact this
 obtain ⟨sb,hsb⟩:∃sb,w2.heap.size=sb:=⟨_,rfl⟩;have HRS:Hid (rb<sb):=by show _<_;rw [←hsb];exact H2.out.2.2.1.lt
 rw [hsb] at HI0 ⊢;obtain ⟨wq,hwq⟩:∃wq,(w2.setCell ⟨p,16,none⟩ (.bool true))=wq:=⟨_,rfl⟩;rw [hwq] at HI0 ⊢;clear hwq;obtain ⟨w3,hw3⟩:∃w3,wq.alloc (.cells #[.int .i64 0,.int .i64 0,.int .i64 0] 98)=w3:=⟨_,rfl⟩;rw [hw3] at HI0 ⊢;clear hw3 hsb H2 d16 y16 HFIN HEV hmm;go_loopw [14] (fun i wr=>∃(k:Nat) (W':Wk) (s':S3) (F':Nat→Prop),k≤m∧i=.int .i64 k∧Hid (TrI w wr p F F' ia ic L q (W.kd.set n.toNat 116).length lv l g rb sb k W' s' fin)) (fun i _=>m-(intOf i).toNat)
 case atStart=>exact ⟨0,_,_,_,Nat.zero_le _,rfl,HI0.out⟩
 case round=>
  clear HI0;obtain ⟨k,W',s',F',hk,rfl,HI⟩:=hrel;have c16:=HI.out.rw.c16.1;by_cases hend:W'.bad=true∨k=m
  ·obtain ⟨x3,hfn,x1,x2⟩:=HI.out.done HNK.out (by have:=HRB.out;omega) (by rcases hend with e|e;exact .inl e;exact .inr (e.trans HOK.out.2.2.2.2.1.symm));obtain ⟨e0,e1,e2⟩:=HI.out.s.at;obtain ⟨r0,r1,r2⟩:=HI.out.r.at;have t0:=HI.out.r.frz 0;have t1:=HI.out.r.frz 1;have t2:=HI.out.r.frz 2;have HX:Hid (At3 (put3 wr rb s') rb s'∧fin=(W',s')∧RWA (put3 wr rb s') p F' ia ic L q W'∧Step F F' w (put3 wr rb s')):=⟨x3,hfn,x1,x2⟩;have hrs:¬rb=sb:=by have:=HRS.out;omega
   clear HI x3 hfn x1 x2;obtain ⟨wb,hwb⟩:∃wb,W'.bad=wb:=⟨_,rfl⟩;rw [hwb] at c16 hend;clear hwb;by_cases hlt:k<m
   ·have:wb=true:=by rcases hend with e|e;exact e;omega
    subst this;clear hend;go_wp2;refine bodyPost_ret (results_cell_row rfl _ _ rb _ #[.int .i64 s'.p,.int .i64 s'.b,.int .i64 s'.l] (0,0) _ rfl HX.out.1 Tryz.underlying98 rfl (by kernel_rfl)) rfl ?_;rw [HX.out.2.1];exact ⟨rfl,F',HX.out.2.2⟩
   ·clear hend;go_wp2;refine bodyPost_ret (results_cell_row rfl _ _ rb _ #[.int .i64 s'.p,.int .i64 s'.b,.int .i64 s'.l] (0,0) _ rfl HX.out.1 Tryz.underlying98 rfl (by kernel_rfl)) rfl ?_;rw [HX.out.2.1];exact ⟨rfl,F',HX.out.2.2⟩
  ·have hb':W'.bad=false:=by cases e:W'.bad with|true=>exact absurd (.inl e) hend|false=>rfl
   have hlt:k<m:=by by_cases e:k=m;exact absurd (.inr e) hend;omega
   clear hend;rw [hb'] at c16;have hkl':k<l.length:=by rw [HOK.out.2.2.2.2.1];exact hlt
   obtain ⟨b,off,hg,-,hbs,a4⟩:=HI.out.row k hkl';subst hg;have hxo:=HOK.out.2.2.2.1 _ (getD_mem hkl');have hob:=okC_bd hxo;have hk0':0<W'.kd.length:=by rw [HI.out.kl];exact HNK.out
   have HC:Hid (∀w1,Below wr.heap.size wr w1→Calls Tryz.prog 45 #[.pointer (some ⟨p,0,none⟩),.int .i64 (l.getD k c40).a,.int .i64 (lv:Int),.bool false] w1 fun e w'=>e=.returned (s3V (wtr L lv false (l.getD k c40).a W').2)∧∃F2,RWA w' p F2 ia ic L q (wtr L lv false (l.getD k c40).a W').1∧Step F' F2 w1 w'):=fun w1 hb1=>HIH.out w1 F' W' (l.getD k c40).a false (HI.out.rw.below hk0' hb1) hb' HI.out.ok hk0' (by omega)
   have hwo:=wtr_ok HOK.out.2.2.1 lv false (l.getD k c40).a W' HI.out.ok;have HNX:Hid (∀w1 w2 F2,Below wr.heap.size wr w1→Step F' F2 w1 w2→_):=fun w1 w2 F2 hb1 st=>HI.out.next hkl' hb' hxo hb1 hwo.1 st (by have:=HRS.out;omega)
   have hbd:=HI.out.bd hb';have hlw:sb<wr.heap.size∧b<wr.heap.size:=⟨HI.out.s.lt,a4.lt⟩;have HXL:Hid (0<(wtr L lv false (l.getD k c40).a W').1.kd.length):=by show 0<_;rw [wtr_len];exact hk0'
   have HSN:Hid (∀F2 w5,Step F' F2 wr w5→¬F2 sb∧¬obl ia sb):=fun F2 w5 st=>⟨st.notin HI.out.s.lt HI.out.ns.1,HI.out.ns.2.1⟩
   obtain ⟨x,hx⟩:∃x,l.getD k c40=x:=⟨_,rfl⟩;rw [hx] at HC HNX a4 hob hwo HXL;obtain ⟨xa,xb,xc,xd⟩:=x;obtain ⟨a40,a41,a42,a43⟩:=a4;simp only at HC HNX a40 a41 a42 a43 hob hwo HXL;obtain ⟨X,hX⟩:∃X,wtr L lv false xa W'=X:=⟨_,rfl⟩;rw [hX] at HC HNX hwo HXL;obtain ⟨XW,Xs⟩:=X;obtain ⟨xp,xq,xl⟩:=Xs;unfold s3V at HC;simp only at HC HNX hwo;obtain ⟨-,⟨wp,wb,wl⟩⟩:=hwo;have hbL:bdL lv≤2000000000:=by unfold bdL;have:=HOK.out.2.2.2.2.2;omega
   obtain ⟨bl,hbl⟩:∃bl,bdL lv=bl:=⟨_,rfl⟩;rw [hbl] at wp wb wl hbL;obtain ⟨sp,sq,sl⟩:=s';obtain ⟨b1,b2,b3⟩:=hbd;simp only at wp wb wl b1 b2 b3;clear hx hX hxo hkl' hk0' hbl;go_wp2_with fail
   refine (HC.out wr (Below.refl _ _)).mono ?_;rintro e w5 ⟨rfl,F2,h2,st2⟩;obtain ⟨⟨h3',a4'⟩,hnx⟩:=HNX.out wr w5 F2 (Below.refl _ _) st2;obtain ⟨v40,v41,v42,v43⟩:=a4' b off rfl;simp only at v40 v41 v42 v43;obtain ⟨e0,e1,e2⟩:=h3'.at;simp only at e0 e1 e2;have HNX2:Hid _:=hnx;have H3P:Hid (At3 w5 sb ⟨sp,sq,sl⟩):=h3';have ls5:sb<w5.heap.size:=h3'.lt;have lb5:b<w5.heap.size:=block_lt_of_cell v40;have HSN:Hid (¬F2 sb∧¬obl ia sb):=HSN.out F2 w5 st2;have H2:Hid (RWA w5 p F2 ia ic L q XW∧wr.heap.size≤w5.heap.size∧0<XW.kd.length):=⟨h2,st2.1.size,HXL.out⟩;clear h2 st2 h3' a4' hnx HNX HC c16 a40 a41 a42 a43;by_cases q1:xp=xb
   ·subst q1;by_cases q2:xq=xc
    ·subst q2;by_cases q3:xl=xd
     ·subst q3;go_wp2;go_quiet (fail)
      obtain ⟨w6,hw6⟩:∃w6,((w5.alloc (Obj.cells #[Value.int IntKind.i64 xp,Value.int IntKind.i64 xq,Value.int IntKind.i64 xl] 98)).drewN nq)=w6:=⟨_,rfl⟩;obtain ⟨HB6,hx6⟩:=sums_new w5 ⟨xp,xq,xl⟩ nq w6 hw6;rw [hw6];have H6:Hid (RWA w6 p F2 ia ic L q XW∧At3 w6 sb ⟨sp,sq,sl⟩):=⟨H2.out.1.below H2.out.2.2 HB6,H3P.out.keep (HB6.block sb ls5)⟩;obtain ⟨x0,x1,x2⟩:=hx6.at;simp only at x0 x1 x2;obtain ⟨d0,d1,d2⟩:=H6.out.2.at;simp only at d0 d1 d2;have y0:=H6.out.2.frz 0;have y1:=H6.out.2.frz 1;have y2:=H6.out.2.frz 2;have z16:=H6.out.1.c16;obtain ⟨g5,hg5⟩:∃g5,w5.heap.size=g5:=⟨_,rfl⟩;have HG:Hid (wr.heap.size≤g5∧Ch w5.heap.size (fun x=>x=sb∨x=p∨wr.heap.size≤x) w5 w6):=⟨by have:=H2.out.2.1;omega,Ch.of _ HB6⟩;rw [hg5] at x0 x1 x2 ls5 lb5 ⊢;have np:¬sb=p:=fun e=>HSN.out.1 (e▸H6.out.1.fp)
      have ng:¬g5=p:=fun e=>by have:=H2.out.1.lt p H2.out.1.fp;omega
      clear hw6 HB6 hx6 e0 e1 e2 v40 v41 v42 v43 hg5 H3P;obtain ⟨c16,z16⟩:=z16;go_wp2;obtain ⟨f1,f2,f3⟩:=kid_good (y:=⟨xa,xp,xq,xl⟩) (x:=⟨xp,xq,xl⟩) H6.out.1 H6.out.2 H2.out.2.2 HSN.out.1 HSN.out.2 (by simp [kdQ]) HG.out.2;exact ⟨⟨k+1,_,_,F2,by omega,by go_num,HNX2.out _ f1 f2 f3⟩,by simp [intOf];omega⟩
     ·have q3':(xl==xd)=false:=by simpa using q3
      have q3'':(xl !=xd)=true:=by simpa using q3
      have HQ:Hid (kdQ ⟨xp,xq,xl⟩ ⟨xa,xp,xq,xd⟩=false):=by show kdQ _ _=false;unfold kdQ;simp only;rw [q3'];simp
      go_wp2;go_quiet (fail)
      obtain ⟨w6,hw6⟩:∃w6,((w5.alloc (Obj.cells #[Value.int IntKind.i64 xp,Value.int IntKind.i64 xq,Value.int IntKind.i64 xl] 98)).drewN nq)=w6:=⟨_,rfl⟩;obtain ⟨HB6,hx6⟩:=sums_new w5 ⟨xp,xq,xl⟩ nq w6 hw6;rw [hw6];have H6:Hid (RWA w6 p F2 ia ic L q XW∧At3 w6 sb ⟨sp,sq,sl⟩):=⟨H2.out.1.below H2.out.2.2 HB6,H3P.out.keep (HB6.block sb ls5)⟩;obtain ⟨x0,x1,x2⟩:=hx6.at;simp only at x0 x1 x2;obtain ⟨d0,d1,d2⟩:=H6.out.2.at;simp only at d0 d1 d2;have y0:=H6.out.2.frz 0;have y1:=H6.out.2.frz 1;have y2:=H6.out.2.frz 2;have z16:=H6.out.1.c16;obtain ⟨g5,hg5⟩:∃g5,w5.heap.size=g5:=⟨_,rfl⟩;have HG:Hid (wr.heap.size≤g5∧Ch w5.heap.size (fun x=>x=sb∨x=p∨wr.heap.size≤x) w5 w6):=⟨by have:=H2.out.2.1;omega,Ch.of _ HB6⟩;rw [hg5] at x0 x1 x2 ls5 lb5 ⊢;have np:¬sb=p:=fun e=>HSN.out.1 (e▸H6.out.1.fp)
      have ng:¬g5=p:=fun e=>by have:=H2.out.1.lt p H2.out.1.fp;omega
      clear hw6 HB6 hx6 e0 e1 e2 v40 v41 v42 v43 hg5 H3P q3 q3' q3'';obtain ⟨c16,z16⟩:=z16;go_wp2;obtain ⟨f1,f2,f3⟩:=kid_bad (y:=⟨xa,xp,xq,xd⟩) (x:=⟨xp,xq,xl⟩) H6.out.1 H6.out.2 H2.out.2.2 HSN.out.1 HSN.out.2 np HQ.out HG.out.2;exact ⟨⟨k+1,_,_,F2,by omega,by go_num,HNX2.out _ f1 f2 f3⟩,by simp [intOf];omega⟩
    ·have q2':(xq==xc)=false:=by simpa using q2
     have q2'':(xq !=xc)=true:=by simpa using q2
     have HQ:Hid (kdQ ⟨xp,xq,xl⟩ ⟨xa,xp,xc,xd⟩=false):=by show kdQ _ _=false;unfold kdQ;simp only;rw [q2'];simp
     go_wp2;go_quiet (fail)
     obtain ⟨w6,hw6⟩:∃w6,((w5.alloc (Obj.cells #[Value.int IntKind.i64 xp,Value.int IntKind.i64 xq,Value.int IntKind.i64 xl] 98)).drewN nq)=w6:=⟨_,rfl⟩;obtain ⟨HB6,hx6⟩:=sums_new w5 ⟨xp,xq,xl⟩ nq w6 hw6;rw [hw6];have H6:Hid (RWA w6 p F2 ia ic L q XW∧At3 w6 sb ⟨sp,sq,sl⟩):=⟨H2.out.1.below H2.out.2.2 HB6,H3P.out.keep (HB6.block sb ls5)⟩;obtain ⟨x0,x1,x2⟩:=hx6.at;simp only at x0 x1 x2;obtain ⟨d0,d1,d2⟩:=H6.out.2.at;simp only at d0 d1 d2;have y0:=H6.out.2.frz 0;have y1:=H6.out.2.frz 1;have y2:=H6.out.2.frz 2;have z16:=H6.out.1.c16;obtain ⟨g5,hg5⟩:∃g5,w5.heap.size=g5:=⟨_,rfl⟩;have HG:Hid (wr.heap.size≤g5∧Ch w5.heap.size (fun x=>x=sb∨x=p∨wr.heap.size≤x) w5 w6):=⟨by have:=H2.out.2.1;omega,Ch.of _ HB6⟩;rw [hg5] at x0 x1 x2 ls5 lb5 ⊢;have np:¬sb=p:=fun e=>HSN.out.1 (e▸H6.out.1.fp)
     have ng:¬g5=p:=fun e=>by have:=H2.out.1.lt p H2.out.1.fp;omega
     clear hw6 HB6 hx6 e0 e1 e2 v40 v41 v42 v43 hg5 H3P q2 q2' q2'';obtain ⟨c16,z16⟩:=z16;go_wp2;obtain ⟨f1,f2,f3⟩:=kid_bad (y:=⟨xa,xp,xc,xd⟩) (x:=⟨xp,xq,xl⟩) H6.out.1 H6.out.2 H2.out.2.2 HSN.out.1 HSN.out.2 np HQ.out HG.out.2;exact ⟨⟨k+1,_,_,F2,by omega,by go_num,HNX2.out _ f1 f2 f3⟩,by simp [intOf];omega⟩
   ·have q1':(xp==xb)=false:=by simpa using q1
    have q1'':(xp !=xb)=true:=by simpa using q1
    have HQ:Hid (kdQ ⟨xp,xq,xl⟩ ⟨xa,xb,xc,xd⟩=false):=by show kdQ _ _=false;unfold kdQ;simp only;rw [q1'];simp
    go_wp2;go_quiet (fail)
    obtain ⟨w6,hw6⟩:∃w6,((w5.alloc (Obj.cells #[Value.int IntKind.i64 xp,Value.int IntKind.i64 xq,Value.int IntKind.i64 xl] 98)).drewN nq)=w6:=⟨_,rfl⟩;obtain ⟨HB6,hx6⟩:=sums_new w5 ⟨xp,xq,xl⟩ nq w6 hw6;rw [hw6];have H6:Hid (RWA w6 p F2 ia ic L q XW∧At3 w6 sb ⟨sp,sq,sl⟩):=⟨H2.out.1.below H2.out.2.2 HB6,H3P.out.keep (HB6.block sb ls5)⟩;obtain ⟨x0,x1,x2⟩:=hx6.at;simp only at x0 x1 x2;obtain ⟨d0,d1,d2⟩:=H6.out.2.at;simp only at d0 d1 d2;have y0:=H6.out.2.frz 0;have y1:=H6.out.2.frz 1;have y2:=H6.out.2.frz 2;have z16:=H6.out.1.c16;obtain ⟨g5,hg5⟩:∃g5,w5.heap.size=g5:=⟨_,rfl⟩;have HG:Hid (wr.heap.size≤g5∧Ch w5.heap.size (fun x=>x=sb∨x=p∨wr.heap.size≤x) w5 w6):=⟨by have:=H2.out.2.1;omega,Ch.of _ HB6⟩;rw [hg5] at x0 x1 x2 ls5 lb5 ⊢;have np:¬sb=p:=fun e=>HSN.out.1 (e▸H6.out.1.fp)
    have ng:¬g5=p:=fun e=>by have:=H2.out.1.lt p H2.out.1.fp;omega
    clear hw6 HB6 hx6 e0 e1 e2 v40 v41 v42 v43 hg5 H3P q1 q1' q1'';obtain ⟨c16,z16⟩:=z16;go_wp2;obtain ⟨f1,f2,f3⟩:=kid_bad (y:=⟨xa,xb,xc,xd⟩) (x:=⟨xp,xq,xl⟩) H6.out.1 H6.out.2 H2.out.2.2 HSN.out.1 HSN.out.2 np HQ.out HG.out.2;exact ⟨⟨k+1,_,_,F2,by omega,by go_num,HNX2.out _ f1 f2 f3⟩,by simp [intOf];omega⟩
set_option maxRecDepth 20000 in
theorem tree_m (hLB:Bys L) (lv:Nat) (hlv:lv≤40) (IH:TreeC p ia ic L q lv) (h:RWA w p F ia ic L q W) (hbad:W.bad=false) (hok:WkOk W) (hk0:0<W.kd.length) (n:Int) (hk:kdB W n 116=true) (z:List Int) (hz:pageOf L n.toNat=z) (l:List C4) (hL:reL true z=l) (m:Nat) (hm:l.length=m) (lv1:Nat) (hlv1:lv+1=lv1) (hE:reE true z=0) (hV:reV true z=(lv1:Int)) (hmm:2≤m) (hm6:m<6):
  Calls Tryz.prog 45 #[.pointer (some ⟨p,0,none⟩),.int .i64 n,.int .i64 (lv1:Int),.bool false] w fun e w'=>e=.returned (s3V (kdGo (wtr L lv false) l ({W with kd:=W.kd.set n.toNat 116,bad:=true},s30)).2)∧∃F',RWA w' p F' ia ic L q (kdGo (wtr L lv false) l ({W with kd:=W.kd.set n.toNat 116,bad:=true},s30)).1∧Step F F' w w':=by
 obtain ⟨gk,ck,aP,aT,cP,cT,h⟩:=h;have hp:=page_yes (h.below hk0 (w':=w.alloc (.cells #[.int .i64 0,.int .i64 0,.int .i64 0] 98)) ((Below.refl _ w).alloc (Nat.le_refl _) _)) n 116 (by omega) hk;rw [hz] at hp
 have HA:Hid (∀w1,Ch (w.alloc (.cells #[.int .i64 0,.int .i64 0,.int .i64 0] 98)).heap.size F (w.alloc (.cells #[.int .i64 0,.int .i64 0,.int .i64 0] 98)) w1→At3 w1 w.heap.size s30∧Step F F w w1):=fun w1 hc=>by
  refine ⟨?_,Step.of ((Ch.of F ((Below.refl _ w).alloc (Nat.le_refl _) _)).trans (hc.mono (by simp) (fun _ _ e=>e)))⟩;show w1.heap[w.heap.size]?=_;rw [hc.block w.heap.size (by simp) (fun e=>by have:=h.lt _ e;omega)];exact heap_alloc_new w _
 have hlb:=reL_bd (t:=true) (page_bys hLB n.toNat);rw [hz,hL] at hlb;have HOK:Hid ((WkOk W∧W.bad=false∧0<W.kd.length)∧(¬F w.heap.size∧¬obl ia w.heap.size)∧Bys L∧(∀x∈l,okC true x=true)∧l.length=m∧lv+1=lv1):=⟨⟨hok,hbad,hk0⟩,⟨fun e=>by have:=h.lt _ e;omega,fun e=>by have:=h.ilt hk0 _ e;omega⟩,hLB,hlb.2,hm,hlv1⟩;have HFL:Hid (∀k,F k→k<w.heap.size):=h.lt;have HIH:Hid (TreeC p ia ic L q lv):=IH;obtain ⟨fin,hfin⟩:∃fin,kdGo (wtr L lv false) l ({W with kd:=W.kd.set n.toNat 116,bad:=true},s30)=fin:=⟨_,rfl⟩;have HFIN:Hid (kdGo (wtr L lv false) l ({W with kd:=W.kd.set n.toNat 116,bad:=true},s30)=fin):=hfin;rw [hfin];have hm20:m≤20:=by omega
 have HEV:Hid (reE true z=0∧reV true z=(lv1:Int)∧reL true z=l):=⟨hE,hV,hL⟩;have hlvi:((lv1:Int)-1)=(lv:Int):=by omega
 have hlv0:0<lv1:=by omega
 have hlv2:lv1≤50:=by omega
 obtain ⟨rb,hrb⟩:∃rb,w.heap.size=rb:=⟨_,rfl⟩;have HRB:Hid (w.heap.size=rb):=hrb;clear h hk hok hbad hk0 hLB hlb hz hL hfin hm IH hlv1 hrb hE hV hlv;go_enter Tryz.func45,Tryz.ntmps45
 go_wp2_with fail
 refine hp.mono ?_;clear hp;rintro e w1 ⟨⟨a',c',rfl,hr1,hl1,-⟩,h1,hc1⟩;obtain ⟨h3,st⟩:=HA.out w1 hc1;obtain ⟨-,-,-,-,c16⟩:=h1.at;have z16:=h1.frz 16;simp only [HOK.out.1.2.1] at c16;rw [HRB.out] at h3 ⊢;have hkd:=rkids_v (some a') c' 256 z w1 hr1 hl1 _ HEV.out.1 l HEV.out.2.2 m HOK.out.2.2.2.2.1 _ HEV.out.2.1;have H1:Hid (RWA w1 p F ia ic L q {W with kd:=W.kd.set n.toNat 116}∧Step F F w w1∧At3 w1 rb s30):=⟨⟨_,_,_,_,_,_,h1⟩,st,h3⟩;have hlp:p<w1.heap.size:=h1.lt p h1.fp;clear h1 hc1 h3 st hr1 hl1 HA;go_wp2_with fail
 refine hkd.mono ?_;clear hkd;rintro e w2 ⟨g,c,rfl,hown,hb2⟩;have d16:=(hb2.cell (p:=⟨p,16,none⟩) hlp).trans c16;have y16:=(hb2.frozen (p:=⟨p,16,none⟩) hlp).trans z16;have HNK:Hid (0<(W.kd.set n.toNat 116).length):=by show 0<_;rw [List.length_set];exact HOK.out.1.2.2
 have H2:Hid (RWA w2 p F ia ic L q {W with kd:=W.kd.set n.toNat 116}∧Ch w.heap.size F w w2∧At3 w2 rb s30∧RowC w2 g c l∧(∀k,obl g k→¬F k∧k<w2.heap.size)):=by
  refine ⟨H1.out.1.below HNK.out hb2,H1.out.2.1.1.trans (Ch.of F (hb2.mono H1.out.2.1.1.size)),H1.out.2.2.keep (hb2.block rb H1.out.2.2.lt),(OwnC.row' hown (fun x hx=>wfC_ok (HOK.out.2.2.2.1 x hx))).2.1,fun k hk=>?_⟩;have:=World.ownsRow.lt hown k (own_obl hk);exact ⟨fun e=>by have:=H1.out.1.lt k e;omega,this.2⟩
 clear hown hb2 c16 z16 H1 hlp;go_wp2
 have HI0:Hid (TrI w ((w2.setCell ⟨p,16,none⟩ (.bool true)).alloc (.cells #[.int .i64 0,.int .i64 0,.int .i64 0] 98)) p F F ia ic L q (W.kd.set n.toNat 116).length lv l g rb w2.heap.size 0 {W with kd:=W.kd.set n.toNat 116,bad:=true} s30 fin):=by
  have hch:Ch w2.heap.size (fun x=>x=p) w2 (w2.setCell ⟨p,16,none⟩ (.bool true)):=(Ch.refl _ (fun x=>x=p) w2).setCell (p:=⟨p,16,none⟩) (.inr rfl) _;have hnp:¬rb=p:=fun e=>by have:=HFL.out p H2.out.1.fp;have:=HRB.out;omega
  have:=TrI.start (lv:=lv) (fin:=fin) (H2.out.1.setBad true) (wpk_bd HOK.out.1.1 n.toNat 116) HNK.out (H2.out.2.1.trans (hch.mono H2.out.2.1.size (fun k hk e=>e▸H2.out.1.fp))) (H2.out.2.2.1.keep (hch.block rb H2.out.2.2.1.lt hnp)) (fun k hk=>by rw [size_setCell];exact H2.out.2.2.2.2 k hk) (H2.out.2.2.2.1.keepO (fun g hg=>hch.block g (H2.out.2.2.2.2 g hg).2 (fun e=>(H2.out.2.2.2.2 g hg).1 (e▸H2.out.1.fp)))) (by rw [←HRB.out];exact HOK.out.2.1) HFIN.out;rw [size_setCell] at this;exact this
 obtain ⟨sb,hsb⟩:∃sb,w2.heap.size=sb:=⟨_,rfl⟩;have HRS:Hid (rb<sb):=by show _<_;rw [←hsb];exact H2.out.2.2.1.lt
 rw [hsb] at HI0 ⊢;obtain ⟨wq,hwq⟩:∃wq,(w2.setCell ⟨p,16,none⟩ (.bool true))=wq:=⟨_,rfl⟩;rw [hwq] at HI0 ⊢;clear hwq;obtain ⟨w3,hw3⟩:∃w3,wq.alloc (.cells #[.int .i64 0,.int .i64 0,.int .i64 0] 98)=w3:=⟨_,rfl⟩;rw [hw3] at HI0 ⊢;clear hw3 hsb H2 d16 y16 HFIN HEV hmm hm6;go_loopw [14] (fun i wr=>∃(k:Nat) (W':Wk) (s':S3) (F':Nat→Prop),k≤m∧i=.int .i64 k∧Hid (TrI w wr p F F' ia ic L q (W.kd.set n.toNat 116).length lv l g rb sb k W' s' fin)) (fun i _=>m-(intOf i).toNat)
 case atStart=>exact ⟨0,_,_,_,Nat.zero_le _,rfl,HI0.out⟩
 case round=>
  clear HI0;obtain ⟨k,W',s',F',hk,rfl,HI⟩:=hrel;have c16:=HI.out.rw.c16.1;by_cases hend:W'.bad=true∨k=m
  ·obtain ⟨x3,hfn,x1,x2⟩:=HI.out.done HNK.out (by have:=HRB.out;omega) (by rcases hend with e|e;exact .inl e;exact .inr (e.trans HOK.out.2.2.2.2.1.symm));obtain ⟨e0,e1,e2⟩:=HI.out.s.at;obtain ⟨r0,r1,r2⟩:=HI.out.r.at;have t0:=HI.out.r.frz 0;have t1:=HI.out.r.frz 1;have t2:=HI.out.r.frz 2;have HX:Hid (At3 (put3 wr rb s') rb s'∧fin=(W',s')∧RWA (put3 wr rb s') p F' ia ic L q W'∧Step F F' w (put3 wr rb s')):=⟨x3,hfn,x1,x2⟩;have hrs:¬rb=sb:=by have:=HRS.out;omega
   clear HI x3 hfn x1 x2;obtain ⟨wb,hwb⟩:∃wb,W'.bad=wb:=⟨_,rfl⟩;rw [hwb] at c16 hend;clear hwb;by_cases hlt:k<m
   ·have:wb=true:=by rcases hend with e|e;exact e;omega
    subst this;clear hend;go_wp2;refine bodyPost_ret (results_cell_row rfl _ _ rb _ #[.int .i64 s'.p,.int .i64 s'.b,.int .i64 s'.l] (0,0) _ rfl HX.out.1 Tryz.underlying98 rfl (by kernel_rfl)) rfl ?_;rw [HX.out.2.1];exact ⟨rfl,F',HX.out.2.2⟩
   ·clear hend;go_wp2;refine bodyPost_ret (results_cell_row rfl _ _ rb _ #[.int .i64 s'.p,.int .i64 s'.b,.int .i64 s'.l] (0,0) _ rfl HX.out.1 Tryz.underlying98 rfl (by kernel_rfl)) rfl ?_;rw [HX.out.2.1];exact ⟨rfl,F',HX.out.2.2⟩
  ·have hb':W'.bad=false:=by cases e:W'.bad with|true=>exact absurd (.inl e) hend|false=>rfl
   have hlt:k<m:=by by_cases e:k=m;exact absurd (.inr e) hend;omega
   clear hend;rw [hb'] at c16;have hkl':k<l.length:=by rw [HOK.out.2.2.2.2.1];exact hlt
   obtain ⟨b,off,hg,-,hbs,a4⟩:=HI.out.row k hkl';subst hg;have hxo:=HOK.out.2.2.2.1 _ (getD_mem hkl');have hob:=okC_bd hxo;have hk0':0<W'.kd.length:=by rw [HI.out.kl];exact HNK.out
   have HC:Hid (∀w1,Below wr.heap.size wr w1→Calls Tryz.prog 45 #[.pointer (some ⟨p,0,none⟩),.int .i64 (l.getD k c40).a,.int .i64 (lv:Int),.bool false] w1 fun e w'=>e=.returned (s3V (wtr L lv false (l.getD k c40).a W').2)∧∃F2,RWA w' p F2 ia ic L q (wtr L lv false (l.getD k c40).a W').1∧Step F' F2 w1 w'):=fun w1 hb1=>HIH.out w1 F' W' (l.getD k c40).a false (HI.out.rw.below hk0' hb1) hb' HI.out.ok hk0' (by omega)
   have hwo:=wtr_ok HOK.out.2.2.1 lv false (l.getD k c40).a W' HI.out.ok;have HNX:Hid (∀w1 w2 F2,Below wr.heap.size wr w1→Step F' F2 w1 w2→_):=fun w1 w2 F2 hb1 st=>HI.out.next hkl' hb' hxo hb1 hwo.1 st (by have:=HRS.out;omega)
   have hbd:=HI.out.bd hb';have hlw:sb<wr.heap.size∧b<wr.heap.size:=⟨HI.out.s.lt,a4.lt⟩;have HXL:Hid (0<(wtr L lv false (l.getD k c40).a W').1.kd.length):=by show 0<_;rw [wtr_len];exact hk0'
   have HSN:Hid (∀F2 w5,Step F' F2 wr w5→¬F2 sb∧¬obl ia sb):=fun F2 w5 st=>⟨st.notin HI.out.s.lt HI.out.ns.1,HI.out.ns.2.1⟩
   obtain ⟨x,hx⟩:∃x,l.getD k c40=x:=⟨_,rfl⟩;rw [hx] at HC HNX a4 hob hwo HXL;obtain ⟨xa,xb,xc,xd⟩:=x;obtain ⟨a40,a41,a42,a43⟩:=a4;simp only at HC HNX a40 a41 a42 a43 hob hwo HXL;obtain ⟨X,hX⟩:∃X,wtr L lv false xa W'=X:=⟨_,rfl⟩;rw [hX] at HC HNX hwo HXL;obtain ⟨XW,Xs⟩:=X;obtain ⟨xp,xq,xl⟩:=Xs;unfold s3V at HC;simp only at HC HNX hwo;obtain ⟨-,⟨wp,wb,wl⟩⟩:=hwo;have hbL:bdL lv≤2000000000:=by unfold bdL;have:=HOK.out.2.2.2.2.2;omega
   obtain ⟨bl,hbl⟩:∃bl,bdL lv=bl:=⟨_,rfl⟩;rw [hbl] at wp wb wl hbL;obtain ⟨sp,sq,sl⟩:=s';obtain ⟨b1,b2,b3⟩:=hbd;simp only at wp wb wl b1 b2 b3;clear hx hX hxo hkl' hk0' hbl;go_wp2_with fail
   refine (HC.out wr (Below.refl _ _)).mono ?_;rintro e w5 ⟨rfl,F2,h2,st2⟩;obtain ⟨⟨h3',a4'⟩,hnx⟩:=HNX.out wr w5 F2 (Below.refl _ _) st2;obtain ⟨v40,v41,v42,v43⟩:=a4' b off rfl;simp only at v40 v41 v42 v43;obtain ⟨e0,e1,e2⟩:=h3'.at;simp only at e0 e1 e2;have HNX2:Hid _:=hnx;have H3P:Hid (At3 w5 sb ⟨sp,sq,sl⟩):=h3';have ls5:sb<w5.heap.size:=h3'.lt;have lb5:b<w5.heap.size:=block_lt_of_cell v40;have HSN:Hid (¬F2 sb∧¬obl ia sb):=HSN.out F2 w5 st2;have H2:Hid (RWA w5 p F2 ia ic L q XW∧wr.heap.size≤w5.heap.size∧0<XW.kd.length):=⟨h2,st2.1.size,HXL.out⟩;clear h2 st2 h3' a4' hnx HNX HC c16 a40 a41 a42 a43;by_cases q1:xp=xb
   ·subst q1;by_cases q2:xq=xc
    ·subst q2;by_cases q3:xl=xd
     ·subst q3;go_wp2;go_quiet (fail)
      obtain ⟨w6,hw6⟩:∃w6,((w5.alloc (Obj.cells #[Value.int IntKind.i64 xp,Value.int IntKind.i64 xq,Value.int IntKind.i64 xl] 98)).drewN nq)=w6:=⟨_,rfl⟩;obtain ⟨HB6,hx6⟩:=sums_new w5 ⟨xp,xq,xl⟩ nq w6 hw6;rw [hw6];have H6:Hid (RWA w6 p F2 ia ic L q XW∧At3 w6 sb ⟨sp,sq,sl⟩):=⟨H2.out.1.below H2.out.2.2 HB6,H3P.out.keep (HB6.block sb ls5)⟩;obtain ⟨x0,x1,x2⟩:=hx6.at;simp only at x0 x1 x2;obtain ⟨d0,d1,d2⟩:=H6.out.2.at;simp only at d0 d1 d2;have y0:=H6.out.2.frz 0;have y1:=H6.out.2.frz 1;have y2:=H6.out.2.frz 2;have z16:=H6.out.1.c16;obtain ⟨g5,hg5⟩:∃g5,w5.heap.size=g5:=⟨_,rfl⟩;have HG:Hid (wr.heap.size≤g5∧Ch w5.heap.size (fun x=>x=sb∨x=p∨wr.heap.size≤x) w5 w6):=⟨by have:=H2.out.2.1;omega,Ch.of _ HB6⟩;rw [hg5] at x0 x1 x2 ls5 lb5 ⊢;have np:¬sb=p:=fun e=>HSN.out.1 (e▸H6.out.1.fp)
      have ng:¬g5=p:=fun e=>by have:=H2.out.1.lt p H2.out.1.fp;omega
      clear hw6 HB6 hx6 e0 e1 e2 v40 v41 v42 v43 hg5 H3P;obtain ⟨c16,z16⟩:=z16;go_wp2;obtain ⟨f1,f2,f3⟩:=kid_good (y:=⟨xa,xp,xq,xl⟩) (x:=⟨xp,xq,xl⟩) H6.out.1 H6.out.2 H2.out.2.2 HSN.out.1 HSN.out.2 (by simp [kdQ]) HG.out.2;exact ⟨⟨k+1,_,_,F2,by omega,by go_num,HNX2.out _ f1 f2 f3⟩,by simp [intOf];omega⟩
     ·have q3':(xl==xd)=false:=by simpa using q3
      have q3'':(xl !=xd)=true:=by simpa using q3
      have HQ:Hid (kdQ ⟨xp,xq,xl⟩ ⟨xa,xp,xq,xd⟩=false):=by show kdQ _ _=false;unfold kdQ;simp only;rw [q3'];simp
      go_wp2;go_quiet (fail)
      obtain ⟨w6,hw6⟩:∃w6,((w5.alloc (Obj.cells #[Value.int IntKind.i64 xp,Value.int IntKind.i64 xq,Value.int IntKind.i64 xl] 98)).drewN nq)=w6:=⟨_,rfl⟩;obtain ⟨HB6,hx6⟩:=sums_new w5 ⟨xp,xq,xl⟩ nq w6 hw6;rw [hw6];have H6:Hid (RWA w6 p F2 ia ic L q XW∧At3 w6 sb ⟨sp,sq,sl⟩):=⟨H2.out.1.below H2.out.2.2 HB6,H3P.out.keep (HB6.block sb ls5)⟩;obtain ⟨x0,x1,x2⟩:=hx6.at;simp only at x0 x1 x2;obtain ⟨d0,d1,d2⟩:=H6.out.2.at;simp only at d0 d1 d2;have y0:=H6.out.2.frz 0;have y1:=H6.out.2.frz 1;have y2:=H6.out.2.frz 2;have z16:=H6.out.1.c16;obtain ⟨g5,hg5⟩:∃g5,w5.heap.size=g5:=⟨_,rfl⟩;have HG:Hid (wr.heap.size≤g5∧Ch w5.heap.size (fun x=>x=sb∨x=p∨wr.heap.size≤x) w5 w6):=⟨by have:=H2.out.2.1;omega,Ch.of _ HB6⟩;rw [hg5] at x0 x1 x2 ls5 lb5 ⊢;have np:¬sb=p:=fun e=>HSN.out.1 (e▸H6.out.1.fp)
      have ng:¬g5=p:=fun e=>by have:=H2.out.1.lt p H2.out.1.fp;omega
      clear hw6 HB6 hx6 e0 e1 e2 v40 v41 v42 v43 hg5 H3P q3 q3' q3'';obtain ⟨c16,z16⟩:=z16;go_wp2;obtain ⟨f1,f2,f3⟩:=kid_bad (y:=⟨xa,xp,xq,xd⟩) (x:=⟨xp,xq,xl⟩) H6.out.1 H6.out.2 H2.out.2.2 HSN.out.1 HSN.out.2 np HQ.out HG.out.2;exact ⟨⟨k+1,_,_,F2,by omega,by go_num,HNX2.out _ f1 f2 f3⟩,by simp [intOf];omega⟩
    ·have q2':(xq==xc)=false:=by simpa using q2
     have q2'':(xq !=xc)=true:=by simpa using q2
     have HQ:Hid (kdQ ⟨xp,xq,xl⟩ ⟨xa,xp,xc,xd⟩=false):=by show kdQ _ _=false;unfold kdQ;simp only;rw [q2'];simp
     go_wp2;go_quiet (fail)
     obtain ⟨w6,hw6⟩:∃w6,((w5.alloc (Obj.cells #[Value.int IntKind.i64 xp,Value.int IntKind.i64 xq,Value.int IntKind.i64 xl] 98)).drewN nq)=w6:=⟨_,rfl⟩;obtain ⟨HB6,hx6⟩:=sums_new w5 ⟨xp,xq,xl⟩ nq w6 hw6;rw [hw6];have H6:Hid (RWA w6 p F2 ia ic L q XW∧At3 w6 sb ⟨sp,sq,sl⟩):=⟨H2.out.1.below H2.out.2.2 HB6,H3P.out.keep (HB6.block sb ls5)⟩;obtain ⟨x0,x1,x2⟩:=hx6.at;simp only at x0 x1 x2;obtain ⟨d0,d1,d2⟩:=H6.out.2.at;simp only at d0 d1 d2;have y0:=H6.out.2.frz 0;have y1:=H6.out.2.frz 1;have y2:=H6.out.2.frz 2;have z16:=H6.out.1.c16;obtain ⟨g5,hg5⟩:∃g5,w5.heap.size=g5:=⟨_,rfl⟩;have HG:Hid (wr.heap.size≤g5∧Ch w5.heap.size (fun x=>x=sb∨x=p∨wr.heap.size≤x) w5 w6):=⟨by have:=H2.out.2.1;omega,Ch.of _ HB6⟩;rw [hg5] at x0 x1 x2 ls5 lb5 ⊢;have np:¬sb=p:=fun e=>HSN.out.1 (e▸H6.out.1.fp)
     have ng:¬g5=p:=fun e=>by have:=H2.out.1.lt p H2.out.1.fp;omega
     clear hw6 HB6 hx6 e0 e1 e2 v40 v41 v42 v43 hg5 H3P q2 q2' q2'';obtain ⟨c16,z16⟩:=z16;go_wp2;obtain ⟨f1,f2,f3⟩:=kid_bad (y:=⟨xa,xp,xc,xd⟩) (x:=⟨xp,xq,xl⟩) H6.out.1 H6.out.2 H2.out.2.2 HSN.out.1 HSN.out.2 np HQ.out HG.out.2;exact ⟨⟨k+1,_,_,F2,by omega,by go_num,HNX2.out _ f1 f2 f3⟩,by simp [intOf];omega⟩
   ·have q1':(xp==xb)=false:=by simpa using q1
    have q1'':(xp !=xb)=true:=by simpa using q1
    have HQ:Hid (kdQ ⟨xp,xq,xl⟩ ⟨xa,xb,xc,xd⟩=false):=by show kdQ _ _=false;unfold kdQ;simp only;rw [q1'];simp
    go_wp2;go_quiet (fail)
    obtain ⟨w6,hw6⟩:∃w6,((w5.alloc (Obj.cells #[Value.int IntKind.i64 xp,Value.int IntKind.i64 xq,Value.int IntKind.i64 xl] 98)).drewN nq)=w6:=⟨_,rfl⟩;obtain ⟨HB6,hx6⟩:=sums_new w5 ⟨xp,xq,xl⟩ nq w6 hw6;rw [hw6];have H6:Hid (RWA w6 p F2 ia ic L q XW∧At3 w6 sb ⟨sp,sq,sl⟩):=⟨H2.out.1.below H2.out.2.2 HB6,H3P.out.keep (HB6.block sb ls5)⟩;obtain ⟨x0,x1,x2⟩:=hx6.at;simp only at x0 x1 x2;obtain ⟨d0,d1,d2⟩:=H6.out.2.at;simp only at d0 d1 d2;have y0:=H6.out.2.frz 0;have y1:=H6.out.2.frz 1;have y2:=H6.out.2.frz 2;have z16:=H6.out.1.c16;obtain ⟨g5,hg5⟩:∃g5,w5.heap.size=g5:=⟨_,rfl⟩;have HG:Hid (wr.heap.size≤g5∧Ch w5.heap.size (fun x=>x=sb∨x=p∨wr.heap.size≤x) w5 w6):=⟨by have:=H2.out.2.1;omega,Ch.of _ HB6⟩;rw [hg5] at x0 x1 x2 ls5 lb5 ⊢;have np:¬sb=p:=fun e=>HSN.out.1 (e▸H6.out.1.fp)
    have ng:¬g5=p:=fun e=>by have:=H2.out.1.lt p H2.out.1.fp;omega
    clear hw6 HB6 hx6 e0 e1 e2 v40 v41 v42 v43 hg5 H3P q1 q1' q1'';obtain ⟨c16,z16⟩:=z16;go_wp2;obtain ⟨f1,f2,f3⟩:=kid_bad (y:=⟨xa,xb,xc,xd⟩) (x:=⟨xp,xq,xl⟩) H6.out.1 H6.out.2 H2.out.2.2 HSN.out.1 HSN.out.2 np HQ.out HG.out.2;exact ⟨⟨k+1,_,_,F2,by omega,by go_num,HNX2.out _ f1 f2 f3⟩,by simp [intOf];omega⟩
end
end Go.Proofs.YtjllhcifmfhkmaaGreat.Oct
